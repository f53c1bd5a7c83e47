import Derived.Test.YtjlfcbccpcigeacGreatDoorC3
import Derived.Test.YtjlfcbccpcigeacGreatDoorE
import Derived.Deep.AppendLies
set_option maxHeartbeats 40000000
set_option linter.defProp false
namespace Go.Proofs.YtjlfcbccpcigeacGreatDoor
open Go.Proofs.Tryz Go.RowKit Go.Joins
set_option linter.unusedVariables false
set_option linter.unusedSimpArgs false
set_option maxRecDepth 8192
section
variable {a p R o d m at' g s i:Nat} {q by' P:Int} {L:Lp} {t:Tg} {T:Li}
section
structure Fc where
 b:Bc
 fb:Nat
 ib:Nat
 pb:Nat
 ka:Nat
 kc:Nat
 kb:Nat->Nat
def sU (c:Fc) (k:Int) (i:Nat):vO:=if i=0 then .slice (pA c.b.ob) c.b.n c.b.n else if i=1 then .slice (pA c.ib) c.b.n c.b.n else if i=2 then .slice (pA c.pb) c.b.n c.b.n else if i=3 then .slice (pA c.ka) c.b.n c.kc else J k
structure yU (c:Fc) (base:Nat) (B:Nat->Nat->Nat->Bool) (I:Nat->Bool) (Q:Nat->Int) (C:Nat->Nat->Int) (k:Int) (x:wO):Prop where
 bars:Zi c.b base B x
 fin:zr x c.fb 271 5 (sU c k)
 ir:zr x c.ib 4 c.b.n (fun i=>.bool (I i))
 pr:zr x c.pb 3 c.b.n (fun i=>J (Q i))
 kr:zr x c.ka 34 c.b.n (fun a=>.slice (pA (c.kb a)) c.b.R c.b.R)
 kk:∀a,a<c.b.n->zr x (c.kb a) 3 c.b.R (fun p=>J (C a p))
 ibn:∀a m,a<c.b.n->m<c.b.n->c.ib≠c.b.cb a m
 pbn:∀a,a<c.b.n->c.pb≠c.kb a
 kinj:∀a a',a<c.b.n->a'<c.b.n->c.kb a=c.kb a'->a=a'
 ge:base<=c.fb/\base<=c.ib/\base<=c.pb/\base<=c.ka
 gek:∀a,a<c.b.n->base<=c.kb a
 cap:c.b.n<=c.kc/\c.kc<=9223372036854775807
variable {c:Fc} {base:Nat} {B:Nat->Nat->Nat->Bool} {I:Nat->Bool} {Q:Nat->Int} {C:Nat->Nat->Int} {k:Int} {x y:wO}
def pJ:(271:TypeId)≠4:=tQ
def mq:(271:TypeId)≠3:=tQ
def K0:(271:TypeId)≠34:=tQ
def lO:(3:TypeId)≠4:=tQ
def nO:(3:TypeId)≠34:=tQ
def AW:(4:TypeId)≠34:=tQ
def yU.gE (h:yU c base B I Q C k x) (hb:Bw x y):yU c base B I Q C k y :=
 ⟨h.bars.gE hb,h.fin.gE hb h.fin.lt,h.ir.gE hb h.ir.lt,h.pr.gE hb h.pr.lt,h.kr.gE hb h.kr.lt,fun a b=>(h.kk a b).gE hb (h.kk a b).lt,h.ibn,h.pbn,h.kinj,h.ge,h.gek,h.cap⟩
theorem yU.congr (h:yU c base B I Q C k x) {d:Nat->Nat->Int} (g:∀a,a<c.b.n->∀p,p<c.b.R->C a p=d a p):yU c base B I Q d k x :=
 ⟨h.bars,h.fin,h.ir,h.pr,h.kr,fun a f=>(h.kk a f).congr fun p i=>rQ,h.ibn,h.pbn,h.kinj,h.ge,h.gek,h.cap⟩
def yU.fields (h:yU c base B I Q C k x):x.cell? (E c.fb 0)=some (.slice (pA c.b.ob) c.b.n c.b.n)/\x.cell? (E c.fb 1)=some (.slice (pA c.ib) c.b.n c.b.n)/\x.cell? (E c.fb 2)=some (.slice (pA c.pb) c.b.n c.b.n)/\x.cell? (E c.fb 3)=some (.slice (pA c.ka) c.b.n c.kc)/\x.cell? (E c.fb 4)=Y k :=
 ⟨h.fin.cell tQ,h.fin.cell tQ,h.fin.cell tQ,h.fin.cell tQ,h.fin.cell tQ⟩
def yU.setIn (h:yU c base B I Q C k x) (f:a<c.b.n) (b:Bool):yU c base B (bX I a b) Q C k (x.setCell (E c.ib a) (.bool b))/\Below base x (x.setCell (E c.ib a) (.bool b)):=by
 refine⟨⟨h.bars.otherB h.ir h.ibn _ _,h.fin.gF (h.fin.apart h.ir pJ) _,(h.ir.set a (.bool b) f).congr fun i _=>?_,h.pr.gF (h.pr.apart h.ir lO) _,h.kr.gF (h.ir.apart h.kr AW).s _,fun q d=>(h.kk q d).gF ((h.kk q d).apart h.ir lO) _,h.ibn,h.pbn,h.kinj,h.ge,h.gek,h.cap⟩,(QA _ _).setCell h.ge.2.1 _⟩;simp [bX]
def AX:(3:TypeId)≠261:=tQ
def AY:(3:TypeId)≠322:=tQ
def K1:(271:TypeId)≠261:=tQ
def K3:(271:TypeId)≠322:=tQ
def yU.setQ (h:yU c base B I Q C k x) (f:a<c.b.n) (v:Int):yU c base B I (b9 Q a v) C k (x.setCell (E c.pb a) (J v))/\Below base x (x.setCell (E c.pb a) (J v)):=by
 refine⟨⟨h.bars.other h.pr lO AX AY _ _,h.fin.gF (h.fin.apart h.pr mq) _,h.ir.gF (h.pr.apart h.ir lO).s _,(h.pr.set a (J v) f).congr fun i _=>?_,h.kr.gF (h.pr.apart h.kr nO).s _,fun q d=>(h.kk q d).gF (h.pbn q d).s _,h.ibn,h.pbn,h.kinj,h.ge,h.gek,h.cap⟩,(QA _ _).setCell h.ge.2.2.1 _⟩;grind [b9]
def yU.setK (h:yU c base B I Q C k x) (v:Int):yU c base B I Q C v (x.setCell (E c.fb 4) (J v))/\Below base x (x.setCell (E c.fb 4) (J v)):=by
 refine⟨⟨h.bars.other h.fin pJ K1 K3 _ _,(h.fin.set 4 (J v) tQ).congr fun i hi=>?_,h.ir.gF (h.fin.apart h.ir pJ).s _,h.pr.gF (h.fin.apart h.pr mq).s _,h.kr.gF (h.fin.apart h.kr K0).s _,fun q a=>(h.kk q a).gF (h.fin.apart (h.kk q a) mq).s _,h.ibn,h.pbn,h.kinj,h.ge,h.gek,h.cap⟩,(QA _ _).setCell h.ge.1 _⟩;grind [sU]
def nP (C:Nat->Nat->Int) (a p:Nat) (v:Int):Nat->Nat->Int:=fun a' p'=>if a'=a/\p'=p then v else C a' p'
def yU.setC (h:yU c base B I Q C k x) (d:a<c.b.n) (j:p<c.b.R) (v:Int):yU c base B I Q (nP C a p v) k (x.setCell (E (c.kb a) p) (J v))/\Below base x (x.setCell (E (c.kb a) p) (J v)):=by
 have hr:=h.kk a d;refine⟨⟨h.bars.other hr lO AX AY _ _,h.fin.gF (h.fin.apart hr mq) _,h.ir.gF (hr.apart h.ir lO).s _,h.pr.gF (h.pbn a d) _,h.kr.gF (hr.apart h.kr nO).s _,fun q f=>?_,h.ibn,h.pbn,h.kinj,h.ge,h.gek,h.cap⟩,(QA _ _).setCell (h.gek a d) _⟩;by_cases e:q=a
 ·subst e;refine (hr.set p (J v) j).congr fun i _=>?_;grind [nP]
 refine ((h.kk q f).gF (fun g=>e (h.kinj q a f d g)) _).congr fun i _=>?_;grind [nP]
def it (R:Int) (B:Nat->Nat->Nat->Bool) (C:Nat->Nat->Int) (m:Nat) (q by':Int) (at' o:Nat):Nat->Nat->Int:=fun a p=>if a<at'\/(a=at'/\(((p:Int) - q) % R).toNat<o) then jm R B C m q by' a p else C a p
theorem AZ (g:o<R) (i:p<R) (h:(q+o) % (R:Int)=d):(((p:Int) - q) % (R:Int)).toNat=o↔p=d:=by
 have h0:=QS ((p:Int) - q) (show (R:Int)≠0 by lia);have h1:=E5 ((p:Int) - q) R;have f:=E5 (q+o) R;constructor
 ·intro e;have c:((p:Int) - q) % (R:Int)=o:=lI
  have a:(p:Int)=(q+o)+R*(((p:Int) - q) / R):=lI
  have b:(p:Int) % R=(q+o) % R:=by rw [a,Eh]
  rw [Int.emod_eq_of_lt lI lI,h] at b;lia
 rintro rfl;have a:(p:Int) - q=o+R*(-((q+o) / R)):=rQ
 rw [a,Eh,Int.emod_eq_of_lt lI lI];lia
def K4 {R m q by'} (a p:Nat):C a p=it R B C m q by' 0 0 a p:=by unfold it;lia
def K5 (hR:1<=R) (a p:Nat):it R B C m q by' at' R a p=it R B C m q by' (at'+1) 0 a p:=by
 unfold it;have h1:=QP ((p:Int) - q) (show 0<(R:Int) by lia);lia
def K6 {R:Int} {n:Nat} (b:a<n) (p:Nat):it R B C m q by' n 0 a p=jm R B C m q by' a p:=by grind [it]
def K7 (hB:B at' m o=false) (a p:Nat):it R B C m q by' at' o a p=it R B C m q by' at' (o+1) a p:=by grind [it,jm]
def K8 (c:o<R) (hB:B at' m o) (b:(q+o) % (R:Int)=d) (a p:Nat) (f:p<R):nP (it R B C m q by' at' o) at' d (C at' d+by') a p=it R B C m q by' at' (o+1) a p:=by grind [nP,it,AZ,jm]
def K9 (c:o<R) (b:(q+o) % (R:Int)=d) (a:d<R):it R B C m q by' at' o at' d=C at' d:=by grind [it,AZ]
end
section
variable {c:Fc} {base:Nat} {B:Nat->Nat->Nat->Bool} {I:Nat->Bool} {Q:Nat->Int} {C:Nat->Nat->Int} {k:Int}
def pK (c:Fc) (base:Nat) (B:Nat->Nat->Nat->Bool) (I:Nat->Bool) (Q:Nat->Int) (C:Nat->Nat->Int) (k:Int) (w:wO) (e:Ending) (w':wO):Prop:=e=.returned (.tuple #[])/\yU c base B I Q C k w'/\Below base w w'
structure mS (c:Fc):Prop where
 n1:1<=c.b.n
 n2:c.b.n<=16
 r1:1<=c.b.R
 r2:c.b.R<=128
def A0 (m:Nat) (by':Int) (w:wO) (ok:mS c) (h:yU c base B I Q C k w) (hm:m<c.b.n) (bz:-1<=by') (bM:by'<=1) (U:∀a,a<c.b.n->∀p,p<c.b.R->-100<=C a p/\C a p<=100) (V:0<=Q m/\Q m<c.b.R) :
  Cp 238 #[.pointer (pA c.fb),J m,J by'] w fun e w'=>pK c base B I Q (jm c.b.R B C m (Q m) by') k w e w':=by
 obtain⟨n1,n2,r1,r2⟩:=ok;obtain⟨u,v,x,y,z⟩:=h.fields;have t:=h.fin.lt;obtain⟨dx,dy⟩:=h.cap;have iS:(m:Int)<(c.b.n:Int):=by omega
 have HC:=Z U;have D:Hid (yU c base B I Q (it c.b.R B C m (Q m) by' 0 0) k w):=h.congr fun a G p X=>K4 _ _;have T:Hid (∀(a:Nat) W,yU c base B I Q (it c.b.R B C m (Q m) by' a c.b.R) k W->yU c base B I Q (it c.b.R B C m (Q m) by' (a+1) 0) k W):=fun a W i=>i.congr fun a' _ p _=>K5 r1 _ _;have P:Hid (∀W,yU c base B I Q (it c.b.R B C m (Q m) by' c.b.n 0) k W->Below base w W->pK c base B I Q (jm c.b.R B C m (Q m) by') k w (.returned (.tuple #[])) W):=fun W i hb=>⟨rfl,i.congr fun a' H p _=>K6 H _,hb⟩;have N:Hid (∀(a o:Nat) W,B a m o=false->yU c base B I Q (it c.b.R B C m (Q m) by' a o) k W->yU c base B I Q (it c.b.R B C m (Q m) by' a (o+1)) k W):=fun a o W hB i=>i.congr fun a' _ p _=>K7 hB _ _;have O:Hid (∀(a o d:Nat) W,a<c.b.n->o<c.b.R->d<c.b.R->B a m o->(Q m+o) % (c.b.R:Int)=d->yU c base B I Q (it c.b.R B C m (Q m) by' a o) k W->yU c base B I Q (it c.b.R B C m (Q m) by' a (o+1)) k (W.st (c.kb a) d (J (C a d+by')))/\Below base W (W.st (c.kb a) d (J (C a d+by')))/\it c.b.R B C m (Q m) by' a o a d=C a d):=fun a o d W G K j hB hr i=>by obtain⟨g1,g2⟩:=i.setC G j (C a d+by');exact⟨g1.congr fun a' _ p X=>K8 K hB hr _ _ X,g2,K9 K hr j⟩
 clear h U;obtain⟨q,L⟩:=nm (Q m);rw [L] at V O D T P N ⊢;have gn:=Z L;clear L;obtain⟨q1,q2⟩:=V;go_enter func238,ntmps238;go_wp2;clear u v x y z t;go_loopw [15] (fun F wr=>∃a:Nat,a<=c.b.n/\F=J a/\yU c base B I Q (it c.b.R B C m q by' a 0) k wr/\Below base w wr) (fun F _=>c.b.n - (intOf F).toNat)
 case atStart=>exact⟨0,Ql _,rfl,D,QA _ _⟩
 clear D;obtain⟨a,G,rfl,hF,s⟩:=hrel;have A:=Z hF;have g:=Z s;clear s;by_cases f:a<c.b.n
 ·have bL:(a:Int)<(c.b.n:Int):=by omega
  obtain⟨u,v,x,y,z⟩:=hF.fields;have t:=hF.fin.lt;have k1:=hF.kr.cell f;have kz:=hF.kr.lt;have o1:=hF.bars.o.cell f;have oz:=hF.bars.o.lt;have r3:=(hF.bars.r a f).cell hm;have rz:=(hF.bars.r a f).lt;clear hF;rename wO=>wo;go_wp2;clear u v x y z t k1 kz o1 oz r3 rz;go_loopw [36] (fun M wr=>∃o:Nat,o<=c.b.R/\M=J o/\yU c base B I Q (it c.b.R B C m q by' a o) k wr/\Below base w wr) (fun M _=>c.b.R - (intOf M).toNat)
  case atStart=>exact⟨0,Ql _,rfl,A,g⟩
  clear A g;obtain⟨o,K,rfl,hF,s⟩:=hrel;have A:=Z hF;have g:=Z s;clear s;by_cases S:o<c.b.R
  ·have iD:(o:Int)<(c.b.R:Int):=(by omega);have e1:=(hF.bars.cc a m f hm).cell S;have ez:=(hF.bars.cc a m f hm).lt;obtain⟨bo,l⟩:=nm (B a m o);rw [l] at e1;cases bo with
   | false =>
    have HN:=Z (N a o wr l hF);clear hF l;go_wp2;go_roundw
    case rel=>exact⟨o+1,by omega,by go_num,HN,g⟩
    simp [intOf];omega
   | true =>
    obtain⟨d,j⟩:∃d:Nat,(q+o) % (c.b.R:Int)=d:=⟨((q+o) % (c.b.R:Int)).toNat,by have:=QS (q+o) (show (c.b.R:Int)≠0 by omega);omega⟩;have fy:(d:Int)<(c.b.R:Int):=(by rw [<-j];exact QP _ (by omega));obtain⟨y1,y2,y3⟩:=O a o d wr f S (by omega) l j hF;have HL:=Z (fun W=>VO (q+o) c.b.R d W (by omega) (by omega) (by omega) (by omega) j);obtain⟨u,v,x,y,z⟩:=hF.fields;have t:=hF.fin.lt;have p1:=hF.pr.cell hm;have pz:=hF.pr.lt;have kd:=(hF.kk a f).cell (show d<c.b.R by omega);have kf:=(hF.kk a f).frozen d;have kz:=(hF.kk a f).lt;rw [y3] at kd;rw [gn] at p1;obtain⟨u1,u2⟩:=HC a f d (by omega);have dC:wrap64 (q+o)=q+o:=(by unfold wrap64;omega);have eK:wrap64 (C a d+by')=C a d+by':=(by unfold wrap64;omega);have cB:=Z y1;have dm:=Z (g.t y2);clear y1 y2 y3 hF l j u1 u2;generalize C a d=cd at *
    go_wp2_with fail;refine (HL _).mr fun x2 rfl=>?_;go_wp2;go_roundw
    case rel=>exact⟨o+1,by omega,by go_num,cB,dm⟩
    simp [intOf];omega
  have e:o=c.b.R:=by omega
  have iD:¬(o:Int)<(c.b.R:Int):=by omega
  have HR:=Z (T a wr (by simp_all));clear hF e;go_wp2;go_roundw
  case rel=>exact⟨a+1,by omega,by go_num,HR,g⟩
  simp [intOf];omega
 have e:a=c.b.n:=by omega
 have bL:¬(a:Int)<(c.b.n:Int):=by omega
 have HP:=Z (P wr (by simp_all) g);clear hF e;go_wp2;go_end0;exact HP
end
section
variable {c:Fc} {base:Nat} {B:Nat->Nat->Nat->Bool} {I:Nat->Bool} {Q:Nat->Int} {C:Nat->Nat->Int} {k:Int}
def K' (a:Nat) (w:wO) (ok:mS c) (h:yU c base B I Q C k w) (d:a<c.b.n) (j:∀a,a<c.b.n->∀p,p<c.b.R->-100<=C a p/\C a p<=100) (l:0<=Q a/\Q a<c.b.R) :
  Cp 240 #[.pointer (pA c.fb),J a] w fun e w'=>pK c base B (bX I a false) Q (jm c.b.R B C a (Q a) (-1)) k w e w':=by
 obtain⟨g,i⟩:=h.setIn d false;have f:=Z (A0 a (-1) _ ok g d tQ tQ j l);have m:=Z i;obtain⟨u,v,x,y,z⟩:=h.fields;have s:=h.fin.lt;have i1:=h.ir.cell d;have i2:=h.ir.frozen a;have A:=h.ir.lt;have t:(a:Int)<(c.b.n:Int):=oM
 have r:=ok.n2;clear h g i j l ok;go_enter func240,ntmps240;go_wp2_with fail;apply f.m;rintro e D ⟨rfl,hF,hb⟩;have o:=Z hF;have q:=Z (m.t hb);clear hF hb f;go_wp2;go_end0;exact⟨rfl,o,q⟩
def A1 (a p:Nat) (w:wO) (ok:mS c) (h:yU c base B I Q C k w) (f:a<c.b.n) (hp:p<c.b.R) (W:0<=k) (X:k<=1000) (L:∀a,a<c.b.n->∀p,p<c.b.R->-100<=C a p/\C a p<=100) :
  Cp 200 #[.pointer (pA c.fb),J a,J p] w fun e w'=>pK c base B (bX I a true) (b9 Q a p) (jm c.b.R B C a p 1) (k+1) w e w':=by
 obtain⟨A,D⟩:=h.setK (k+1);obtain⟨s,t,u,v,x⟩:=h.fields;have j:=h.fin.lt;have O:=h.fin.frozen 4;have T:(a:Int)<(c.b.n:Int):=oM
 have U:(p:Int)<(c.b.R:Int):=oM
 have P:=ok.n2;have d:=Z A;have l:=Z D;have i:=Z ok;have r:=Z L;have V:wrap64 (k+1)=k+1:=by unfold wrap64;omega
 clear h A D ok L;go_enter func200,ntmps200;go_wp2;clear s t u v x j O;generalize w.st c.fb 4 (J (k+1))=y at *
 obtain⟨s,t,u,v,x⟩:=d.fields;have j:=d.fin.lt;have i1:=d.ir.cell f;have i2:=d.ir.frozen a;have iz:=d.ir.lt;have p1:=d.pr.cell f;have p2:=d.pr.frozen a;have pz:=d.pr.lt;have S:¬c.ib=c.pb:=(d.pr.apart d.ir lO).s;have er:¬c.pb=c.ib:=d.pr.apart d.ir lO;obtain⟨F,G⟩:=d.setIn f true;obtain⟨H,K⟩:=F.setQ f p;have o:=Z H;have q:=Z (G.t K);clear F G H K;have g:=Z (A0 a 1 _ i (o.gE (Qm _ _ 1)) f tQ tQ r (by grind [b9]));have z:b9 Q a p a=p:=by simp [b9]
 rw [z] at g;have m:=Z (l.t (q.t (Qm base _ 1)));clear z o q d l r i;go_region;go_wp2_with fail;apply g.m;rintro e x2 ⟨rfl,hF,hb⟩;have M:=Z hF;have N:=Z (m.t hb);clear hF hb g m;go_wp2;go_end0;exact⟨rfl,M,N⟩
def La (R:Nat) (C:Nat->Nat->Int) (a:Nat) (w:wO) (e:Ending) (w':wO):Prop:=∃v:Nat,v<=R/\Ur C a R=v/\e=.returned (J v)/\w'=w
def Lb (a:Nat) (w:wO) (ok:mS c) (h:yU c base B I Q C k w) (s:a<c.b.n) (r:∀p,p<c.b.R->-100<=C a p/\C a p<=100) :
  Cp 251 #[.pointer (pA c.fb),J a] w fun e w'=>La c.b.R C a w e w':=by
 obtain⟨y,A,D,F,G⟩:=h.fields;have M:=h.fin.lt;have N:(a:Int)<(c.b.n:Int):=oM
 have k1:=h.kr.cell s;have t:=h.kr.lt;obtain⟨O,P⟩:=h.cap;have l:=Z (h.kk a s);have u:=Z r;have K:=ok.n2;have L:=ok.r2;clear h r ok;go_enter func251,ntmps251;go_wp2;clear y A D F G k1 t;go_loopw [5,16] (fun fv j wr=>∃p v:Nat,p<=c.b.R/\v<=p/\Ur C a p=v/\j=J p/\fv=J v/\wr=w) (fun _ j _=>c.b.R - (intOf j).toNat)
 case atStart=>exact⟨0,0,Ql _,Qc _,rfl,rfl,rfl,rfl⟩
 obtain⟨p,v,U,V,o,rfl,rfl,H⟩:=hrel;subst H;have m:=Z o;clear o;by_cases d:p<c.b.R
 ·have x:(p:Int)<(c.b.R:Int):=oM
  have kc:=l.cell d;have t:=l.lt;obtain⟨u1,u2⟩:=u p d;have q:Hid (∀z,C a p=z->Ur C a (p+1)=if z=0 then v+1 else v):=fun z f=>by show (if _ then _ else _)=_;rw [m,f]
  obtain⟨cc,i⟩:=nm (C a p);have S:=Z (q cc i);rw [i] at kc u1 u2;clear i q;by_cases f:cc=0
  ·have g:Hid (Ur C a (p+1)=v+1):=(by simp_all);subst f;go_wp2;go_roundw
   case rel=>exact⟨p+1,v+1,oM,oM,g,nQ,nQ,by trivial⟩
   simp [intOf];omega
  have T:(cc == 0)=false:=by simp [f]
  have g:Hid (Ur C a (p+1)=v):=sA
  go_wp2;go_roundw
  case rel=>exact⟨p+1,v,oM,oM,g,nQ,rfl,by trivial⟩
  simp [intOf];omega
 have x:¬(p:Int)<(c.b.R:Int):=oM
 go_wp2;go_ret;exact⟨v,oM,by have e:p=c.b.R:=(by omega);rw [<-e];exact m,rfl,rfl⟩
def A2 (c:Fc) (I:Nat->Bool) (C:Nat->Nat->Int) (w:wO) (e:Ending) (w':wO):Prop:=∃(fd:Nat) (lf:Bool),e=.returned (.tuple #[J fd,.bool lf])/\fd<c.b.n/\(lf=false->∀j,j<c.b.n->I j)/\(lf->I fd=false)/\(∃fw,XS c.b.R C I c.b.n=(fd,fw,lf))/\w'=w
def Ld (w:wO) (ok:mS c) (h:yU c base B I Q C k w) (N:∀a,a<c.b.n->∀p,p<c.b.R->-100<=C a p/\C a p<=100) :
  Cp 239 #[.pointer (pA c.fb)] w fun e w'=>A2 c I C w e w':=by
 obtain⟨U,f1,V,W,X⟩:=h.fields;have aj:=h.fin.lt;have D:=Z h.ir;have fZ:=Z (fun a (O:a<c.b.n)=>Lb a w ok h O (N a O));have aG:=ok.n1;have aB:=ok.n2;have aV:=ok.r2;clear h N ok U V W X;go_enter func239,ntmps239;go_wp2;go_loopw [4,5,6,14] (fun fv nv lv i wr=>∃(q f d:Nat) (g:Bool),q<=c.b.n/\i=J q/\fv=J f/\nv=J d/\lv=.bool g/\f<c.b.n/\d<=128/\(g=false->∀j,j<q->I j)/\(g->I f=false)/\XS c.b.R C I q=(f,d,g)/\wr=w) (fun _ _ _ i _=>c.b.n - (intOf i).toNat)
 case atStart=>exact⟨0,0,0,false,Ql _,rfl,rfl,rfl,rfl,oM,oM,fun _ j z=>absurd z (Qv _),fun h=>absurd h sM,rfl,rfl⟩
 obtain⟨q,f,d,g,hq,rfl,rfl,rfl,rfl,t,M,H,F,K,hw⟩:=hrel;subst hw;have o:=Z K;clear K;have G:=Z H;have r:=Z F;clear H F;by_cases l:q<c.b.n
 ·have T:(q:Int)<(c.b.n:Int):=oM
  have i1:=D.cell l;have iz:=D.lt;have P:=Z (fZ q l);obtain⟨ik,y⟩:=nm (I q);rw [y] at i1;have m:=Z y;clear y;cases ik with
  | true =>
   go_wp2;go_roundw
   case rel =>
    refine⟨q+1,f,d,g,oM,nQ,rfl,rfl,rfl,t,M,fun h j z=>?_,r,AK o (.inl m),by trivial⟩;by_cases e:j=q
    ·rw [e];exact m
    exact G h j oM
   simp [intOf];omega
  | false =>
   go_wp2_with fail;apply P.m;rintro e x2 ⟨v,hv,L,rfl,A⟩;have s:=Z L;clear L;have A:=A.s;subst A;cases g with
   | false =>
    go_wp2;go_roundw
    case rel=>exact⟨q+1,q,v,true,oM,nQ,rfl,rfl,rfl,l,oM,fun h=>absurd h sM,fun _=>m,by have h:=AL o m (.inl rfl);rw [s] at h;exact h,by trivial⟩
    simp [intOf];omega
   | true =>
    by_cases hgt:(v:Int)<(d:Int)
    ·have u:v<d:=(by omega);have x:=Z u;go_wp2;go_roundw
     case rel=>exact⟨q+1,q,v,true,oM,nQ,rfl,rfl,rfl,l,oM,fun h=>absurd h sM,fun _=>m,by have h:=AL o m (.inr (by rw [s];exact x));rw [s] at h;exact h,by trivial⟩
     simp [intOf];omega
    have u:¬v<d:=(by omega);have x:Hid (¬v<d):=u;go_wp2;go_roundw
    case rel=>exact⟨q+1,f,d,true,oM,nQ,rfl,rfl,rfl,t,M,fun h=>absurd h sM,fun _=>by first | exact r rfl | exact r trivial,AK o (.inr ⟨rfl,by rw [s];have:=x;omega⟩),by trivial⟩
    simp [intOf];omega
 have T:¬(q:Int)<(c.b.n:Int):=oM
 have S:Hid (A2 c I C wr (.returned (.tuple #[J f,.bool g])) wr):=⟨f,g,rfl,t,fun h j z=>G h j oM,r,⟨d,by have e:q=c.b.n:=(by omega);rw [<-e];exact o⟩,rfl⟩;go_wp2;exact oB S
end
section
variable {c:Fc} {base:Nat} {B:Nat->Nat->Nat->Bool}
def nR (c:Fc) (base:Nat) (B:Nat->Nat->Nat->Bool) (I:Nat->Bool) (F:sT->Prop) (w:wO) (e:Ending) (w':wO):Prop :=
 ∃(b:Bool) (I':Nat->Bool) (Q':Nat->Int) (C':Nat->Nat->Int) (k':Int),e=.returned (.bool b)/\yU c base B I' Q' C' k' w'/\jt c.b.n c.b.R B I' Q' C' k'/\(b=false->I'=I)/\F (b,I',Q',C',k')/\Below base w w'
def sV (hn:c.b.n<=16) {I:Nat->Bool} {Q:Nat->Int} {C:Nat->Nat->Int} {k:Int} (h:jt c.b.n c.b.R B I Q C k):∀a,a<c.b.n->∀p,p<c.b.R->-100<=C a p/\C a p<=100:=fun a d p f=>by
 have:=h.range hn d (p:=p) lI
 lia
def Le (ok:mS c) (hs:nK c.b.n c.b.R B):∀(d:Nat) (I:Nat->Bool) (Q:Nat->Int) (C:Nat->Nat->Int) (k:Int) (w:wO),yU c base B I Q C k w->jt c.b.n c.b.R B I Q C k->c.b.n<=cnt I c.b.n+d ->
  Cp 201 #[.pointer (pA c.fb)] w fun e w'=>nR c base B I (ZT c.b.n c.b.R B none I Q C k) w e w':=by
 intro d;induction d using Nat.strongRecOn with
 | _ d ih =>
  intro I Q C k w h hf hd;have L:=Z (Ld w ok h (sV ok.n2 hf));have gd:=Z ih;have i:=Z h;have W:=Z hf;have aQ:=Z ok;have HS:=Z hs;have HD:=Z hd;have M:=ok.n2;have aV:=ok.r2;obtain⟨F,dU⟩:=nm (ZT c.b.n c.b.R B none I Q C k);rw [dU];have T:=Z dU;clear ih h hf hd ok hs dU;go_enter func201,ntmps201;go_wp2_with fail;apply L.m;rintro e x ⟨a,lf,rfl,g,aU,N,A,hx⟩;have hx:=hx.s;subst hx;cases lf with
  | false =>have j:Hid (nR c base B I F w (.returned (.bool true)) w):=⟨true,I,Q,C,k,rfl,i,W,fun h=>absurd h sM,by obtain⟨fw,h⟩:=A;rw [<-T];exact .full I Q C k (by rw [h]),QA _ _⟩;clear aU N L A;go_wp2;go_ret;exact j
  | true =>
   have G:=N rfl;have bV:Hid (∀r,ZT c.b.n c.b.R B (some (a,0)) I Q C k r->F r):=fun r h=>by obtain⟨fw,h2⟩:=A;rw [<-T];exact .go I Q C k a fw r h2 h
   clear A T;have eX:=Z G;have eP:Hid (1<=d/\c.b.n<=cnt (bX I a true) c.b.n+(d - 1)):=(by have h1:=KB g G;have h2:=sG g G;have h3:=HD.o;show _/\_;omega);have iQ:(a:Int)<(c.b.n:Int):=(by omega);obtain⟨f0,f1,f2,f3,f4⟩:=i.fields;have S:=i.fin.lt;have k1:=i.kr.cell g;have kz:=i.kr.lt;obtain⟨dx,dy⟩:=i.cap;clear aU N G L HD;go_wp2;clear f0 f1 f2 f3 f4 S k1 kz;go_loopw [22] (fun pv wr=>∃(p:Nat) (Q:Nat->Int) (C:Nat->Nat->Int) (k:Int),p<=c.b.R/\pv=J p/\yU c base B I Q C k wr/\jt c.b.n c.b.R B I Q C k/\Below base w wr/\(∀r,ZT c.b.n c.b.R B (some (a,p)) I Q C k r->F r)) (fun pv _=>c.b.R - (intOf pv).toNat)
   case atStart=>exact⟨0,Q,C,k,Ql _,rfl,i,W,QA _ _,bV⟩
   clear i W bV Q C k;obtain⟨p,Q,C,k,hp,rfl,hF,l,gH,fp⟩:=hrel;have s:=Z fp;clear fp;have u:=Z hF;have o:=Z l;have t:=Z gH;clear gH;by_cases f:p<c.b.R
   ·have V:(p:Int)<(c.b.R:Int):=(by omega);have kc:=(hF.kk a g).cell f;have kz:=(hF.kk a g).lt;obtain⟨u1,u2⟩:=l.range M g V;obtain⟨cv,ee⟩:=nm (C a p);have q:=Z ee;rw [ee] at kc u1 u2;clear ee;by_cases hz:0<cv
    ·have HZ:=Z hz;clear hF l;go_wp2_with fail;go_roundw
     case rel=>exact⟨p+1,Q,C,k,oM,nQ,u,o,t,fun r h=>s r (.skip I Q C k a p r f (by rw [q];exact HZ) h)⟩
     simp [intOf];omega
    have iK:cv=0:=(by omega);subst iK;obtain⟨f0,f1,f2,f3,f4⟩:=hF.fields;have S:=hF.fin.lt;have ek:=l.k0;have em:=l.k1;clear hF l u1 u2 hz;by_cases H:k=1000
    ·subst H;have j:Hid (nR c base B I F w (.returned (.bool false)) wr):=⟨false,I,Q,C,1000,rfl,u,o,fun _=>rfl,s _ (.stop I Q C 1000 a p f (by rw [q];decide) rfl),t⟩;go_wp2_with fail;go_ret;exact j
    have iR:(k == 1000)=false:=(by simp [H]);have aE:=Z (A1 a p wr aQ u g f ek em (sV M o));have dJ:=Z (o.put HS g eX V q oM);clear ek em;go_wp2_with fail;apply aE.m;rintro e x2 ⟨rfl,fm,bM⟩;have O:=Z (gd (d - 1) (by have:=eP.o;omega) _ _ _ _ x2 fm dJ eP.2);have aW:=Z (t.t bM);clear fm bM aE f0 f1 f2 f3 f4 S kc kz;go_wp2_with fail;apply O.m;rintro e x3 ⟨b,v,y,K,k3,rfl,z,m,P,D,U⟩;have bW:=Z z;have gk:=Z m;have aX:=Z (aW.t U);cases b with
    | true =>have j:Hid (nR c base B I F w (.returned (.bool true)) x3):=⟨true,v,y,K,k3,rfl,bW,gk,fun h=>absurd h sM,s _ (.found I Q C k a p _ f (by rw [q];decide) H D),aX⟩;clear z m P D U O;go_wp2_with fail;go_ret;exact j
    | false =>
     have dW:=P rfl;have fD:v a:=(by rw [dW];unfold bX;rw [Qf rfl]);have X:=Z (K' a x3 aQ.o z g (sV M m) (m.pr a g));have fe:=Z (m.o g fD);have dX:bX v a false=I:=(by rw [dW];exact KA eX true);have fY:Hid (∀r,ZT c.b.n c.b.R B (some (a,p+1)) I y (jm c.b.R B K a (y a) (-1)) k3 r->F r):=fun r h=>s r (.back I Q C k a p v y K k3 r f (by rw [q];decide) H D (by rw [dX];exact h));rw [dX] at X fe;clear z m P D U O dW fD dX;go_wp2_with fail;apply X.m;rintro e x4 ⟨rfl,fo,fx⟩;have fX:=Z fo;have fV:=Z (aX.t fx);clear fo fx X;go_wp2_with fail;go_roundw
     case rel=>exact⟨p+1,_,_,_,oM,nQ,fX,fe,fV,fY⟩
     simp [intOf];omega
   have V:¬(p:Int)<(c.b.R:Int):=(by omega);have j:Hid (nR c base B I F w (.returned (.bool false)) wr):=⟨false,I,Q,C,k,rfl,u,o,fun _=>rfl,s _ (.last I Q C k a p f),t⟩;clear hF l;go_wp2;go_ret;exact j
end
section
def lP (b:Bc) (ib pb:Nat) (kv:vO) (i:Nat):vO:=if i=0 then .slice (pA b.ob) b.n b.n else if i=1 then .slice (pA ib) b.n b.n else if i=2 then .slice (pA pb) b.n b.n else if i=3 then kv else J 0
structure jn (b:Bc) (w:wO) (fb ib pb j:Nat) (kb:Nat->Nat) (la:Option Addr) (lc:Nat) (x:wO):Prop where
 bel:Bw w x
 fin:zr x fb 271 5 (lP b ib pb (.slice la j lc))
 own:x.ownsRow w.heap.size 34 1 (.slice la j lc) j ((List.range j).map fun a=>.slice (pA (kb a)) b.R b.R)
 ir:zr x ib 4 b.n (fun _=>.bool false)
 pr:zr x pb 3 b.n (fun _=>J 0)
 kk:∀a,a<j->zr x (kb a) 3 b.R (fun _=>J 0)
 pbn:∀a,a<j->pb≠kb a
 kinj:∀a a',a<j->a'<j->kb a=kb a'->a=a'
 ge:w.heap.size<=fb/\w.heap.size<=ib/\w.heap.size<=pb
 gek:∀a,a<j->w.heap.size<=kb a
variable {b:Bc} {w x y w1:wO} {fb ib pb j:Nat} {kb:Nat->Nat} {la la':Option Addr} {lc lc':Nat}
def jn.gE (h:jn b w fb ib pb j kb la lc x) (hb:Bw x y):jn b w fb ib pb j kb la lc y :=
 ⟨h.bel.tm hb,h.fin.gE hb h.fin.lt,zp h.own hb,h.ir.gE hb h.ir.lt,h.pr.gE hb h.pr.lt,fun a c=>(h.kk a c).gE hb (h.kk a c).lt,h.pbn,h.kinj,h.ge,h.gek⟩
def Lg {base n:Nat} {e:TypeId} {v u:vO} {d:List vO} (h:x.ownsRow base e 1 v n d) (f:some g≠v.ownBlock):(x.setCell (E g o) u).ownsRow base e 1 v n d:=by
 obtain⟨j,h⟩:=h;refine⟨j,?_⟩;rcases h with h | ⟨b,cap,a,c,hb,i,r⟩
 ·exact .inl h
 exact .inr ⟨b,cap,a,c,hb,by rw [Qj _ _ _ _ (fun e=>f (by have e:b=g:=e;rw [c,<-e];rfl))];exact i,r⟩
def A3:(271:TypeId)≠34:=tQ
def jn.next (h:jn b w fb ib pb j kb la lc y)
  (t:w1.ownsRow w.heap.size 34 1 (.slice la' (j+1) lc') (j+1) (((List.range j).map fun a=>.slice (pA (kb a)) b.R b.R)++[.slice (pA y.heap.size) b.R b.R]))
  (k:((y.alloc (.cells (madeCells #[J 0] b.R) 3)).alloc (.cells #[.slice (pA y.heap.size) b.R b.R] 34)).grownBy w1 (Value.ownBlock (.slice la j lc))) :
  jn b w fb ib pb (j+1) (j7 kb j y.heap.size) la' lc' (w1.setCell (E fb 3) (.slice la' (j+1) lc'))/\zr w1 fb 271 5 (lP b ib pb (.slice la j lc)):=by
 have u:Bw y ((y.alloc (.cells (madeCells #[J 0] b.R) 3)).alloc (.cells #[.slice (pA y.z) b.R b.R] 34)):=QB _ _ _;have c:=h.gE u;have p:zr ((y.alloc (.cells (madeCells #[J 0] b.R) 3)).alloc (.cells #[.slice (pA y.z) b.R b.R] 34)) y.z 3 b.R (fun _=>J 0):=(zr.zeros y (J 0) b.R _).alloc _;have d:∀a,a<j->j7 kb j y.z a=kb a:=fun a g=>by grind [j7]
 have l:j7 kb j y.z j=y.z:=by simp [j7]
 have f:zr w1 fb 271 5 (lP b ib pb (.slice la j lc)):=c.fin.grown k (xo c.own c.fin A3);have r:zr w1 ib 4 b.n (fun _=>.bool false):=c.ir.grown k (xo c.own c.ir AW);have o:zr w1 pb 3 b.n (fun _=>J 0):=c.pr.grown k (xo c.own c.pr nO);have x:∀a,a<j->zr w1 (kb a) 3 b.R (fun _=>J 0):=fun a g=>(c.kk a g).grown k (xo c.own (c.kk a g) nO);have s:zr w1 y.z 3 b.R (fun _=>J 0):=p.grown k (xo c.own p nO);refine⟨⟨(c.bel.grown k c.bel.size (zR c.own)).setCell h.ge.1 _,(f.set 3 _ tQ).congr fun i hi=>?_,?_,r.gF (f.apart r pJ).s _,o.gF (f.apart o mq).s _,fun a g=>?_,fun a g=>?_,fun a a' g v e=>?_,h.ge,fun a g=>?_⟩,f⟩
 ·grind [lP]
 ·have m:((List.range (j+1)).map fun a=>(Value.slice (pA (j7 kb j y.z a)) b.R b.R))=((List.range j).map fun a=>.slice (pA (kb a)) b.R b.R)++[.slice (pA y.z) b.R b.R]:=by
   rw [Wn,QV];simp_all
  rw [m];exact Lg t (xo t f A3)
 ·by_cases e:a=j
  ·rw [e,l];exact s.gF (f.apart s mq).s _
  rw [d a lI];have:=x a lI;exact this.gF (f.apart this mq).s _
 ·by_cases e:a=j
  ·rw [e,l];exact Nat.ne_of_lt h.pr.lt
  rw [d a lI];exact h.pbn a lI
 ·by_cases m:a=j
  ·by_cases q:a'=j
   ·lia
   rw [m,l,d a' lI] at e;have:=(h.kk a' lI).lt;lia
  by_cases q:a'=j
  ·rw [q,l,d a lI] at e;have:=(h.kk a lI).lt;lia
  rw [d a lI,d a' lI] at e;exact h.kinj a a' lI lI e
 by_cases e:a=j
 ·rw [e,l];exact h.bel.size
 rw [d a lI];exact h.gek a lI
def sW (b:Bc) (base:Nat) (B:Nat->Nat->Nat->Bool) (w:wO) (e:Ending) (w':wO):Prop:=∃c:Fc,c.b=b/\e=.returned (.pointer (pA c.fb))/\yU c base B (fun _=>false) (fun _=>0) (fun _ _=>0) 0 w'/\Bw w w'
def jn.done {base:Nat} {B:Nat->Nat->Nat->Bool} (h:jn b w fb ib pb b.n kb la lc x) (f:Zi b base B w) (c:base<=w.heap.size) (g:1<=b.n):sW b base B w (.returned (.pointer (pA fb))) x:=by
 obtain⟨ka,kc,p,o,j,k,l⟩:=yC h.own (.inr g);injection p with e1 e2 e3;subst e1 e3;unfold maxLen at k;refine⟨⟨b,fb,ib,pb,ka,lc,kb⟩,rfl,rfl,⟨f.gE h.bel,h.fin.congr fun i hi=>?_,h.ir,h.pr,l.congr fun i hi=>?_,h.kk,fun a m d hm e=>?_,h.pbn,h.kinj,⟨?_,?_,?_,?_⟩,fun a d=>?_,j,lI⟩,h.bel⟩
 ·simp [lP,sU]
 ·grind
 ·have h1:=(f.cc a m d hm).lt;have q:=h.ge.2.1;grind
 ·exact QH c h.ge.1
 ·exact QH c h.ge.2.1
 ·exact QH c h.ge.2.2
 ·exact QH c o
 exact QH c (h.gek a d)
def Lh (b:Bc) (w:wO):Hid (jn b w (w.heap.size+1+1) w.heap.size (w.heap.size+1) 0 (fun _=>0) none 0 (((w.alloc (.cells (madeCells #[.bool false] b.n) 4)).alloc (.cells (madeCells #[J 0] b.n) 3)).alloc (.cells #[.slice (pA b.ob) b.n b.n,.slice (pA w.heap.size) b.n b.n,.slice (some (E ((w.heap.size+1)) 0)) b.n b.n,.slice none 0 0,J 0] 271)).drew):=by
 have hs:(w.alloc (.cells (madeCells #[.bool false] b.n) 4)).heap.size=w.heap.size+1:=sM
 have d:=zr.zeros (w.alloc (.cells (madeCells #[.bool false] b.n) 4)) (J 0) b.n 3;rw [hs] at d;have g:((w.alloc (.cells (madeCells #[.bool false] b.n) 4)).alloc (.cells (madeCells #[J 0] b.n) 3)).heap.size=w.heap.size+1+1:=sM
 have f:=zr.made ((w.alloc (.cells (madeCells #[.bool false] b.n) 4)).alloc (.cells (madeCells #[J 0] b.n) 3)) #[vP b.ob b.n b.n,vP w.z b.n b.n,vE ((w.z+1)) 0 b.n b.n,sN,J 0] 271 5 (lP b w.z (w.z+1) sN) (Qc 5) (fun i hi=>by
  obtain rfl | rfl | rfl | rfl | rfl:i=0\/i=1\/i=2\/i=3\/i=4:=lI
  all_goals rfl)
 rw [g] at f;exact⟨(QJ w _ _ _).t (Qm _ _ 1),f,⟨rfl,.inl ⟨rfl,rfl⟩⟩,((zr.zeros w (.bool false) b.n _).alloc _).alloc _,d.alloc _,fun a c=>absurd c (Qv _),fun a c=>absurd c (Qv _),fun a a' c=>absurd c (Qv _),⟨lI,lI,lI⟩,fun a c=>absurd c (Qv _)⟩
def Lj (b:Bc) (w:wO):Hid (jn b w (w.heap.size+1+1) (w.heap.size+1) w.heap.size 0 (fun _=>0) none 0 (((w.alloc (.cells (madeCells #[J 0] b.n) 3)).alloc (.cells (madeCells #[.bool false] b.n) 4)).alloc (.cells #[.slice (pA b.ob) b.n b.n,.slice (some (E ((w.heap.size+1)) 0)) b.n b.n,.slice (pA w.heap.size) b.n b.n,.slice none 0 0,J 0] 271)).drew):=by
 have hs:(w.alloc (.cells (madeCells #[J 0] b.n) 3)).heap.size=w.heap.size+1:=sM
 have d:=zr.zeros (w.alloc (.cells (madeCells #[J 0] b.n) 3)) (.bool false) b.n 4;rw [hs] at d;have g:((w.alloc (.cells (madeCells #[J 0] b.n) 3)).alloc (.cells (madeCells #[.bool false] b.n) 4)).heap.size=w.heap.size+1+1:=sM
 have f:=zr.made ((w.alloc (.cells (madeCells #[J 0] b.n) 3)).alloc (.cells (madeCells #[.bool false] b.n) 4)) #[vP b.ob b.n b.n,vE ((w.z+1)) 0 b.n b.n,vP w.z b.n b.n,sN,J 0] 271 5 (lP b (w.z+1) w.z sN) (Qc 5) (fun i hi=>by
  obtain rfl | rfl | rfl | rfl | rfl:i=0\/i=1\/i=2\/i=3\/i=4:=lI
  all_goals rfl)
 rw [g] at f;exact⟨(QJ w _ _ _).t (Qm _ _ 1),f,⟨rfl,.inl ⟨rfl,rfl⟩⟩,d.alloc _,((zr.zeros w (J 0) b.n _).alloc _).alloc _,fun a c=>absurd c (Qv _),fun a c=>absurd c (Qv _),fun a a' c=>absurd c (Qv _),⟨lI,lI,lI⟩,fun a c=>absurd c (Qv _)⟩
def Lk (w:wO) (x:vO) (t:TypeId):∀(j:Nat) (u:vO),[x][j]?=some u->(w.alloc (.cells #[x] t)).cell? (((E w.heap.size 0):Addr).add j)=some u:=by
 intro j u b;have a:((E w.z 0):Addr).add j=(E w.z j):=by simp [Addr.add];lia
 simp_all
def Ll:(prog.info? 34).map (fun i=>(i.zero,i.size,i.bytes))=some (some (.slice none 0 0),1,24):=kR
def A4:(prog.info? 3).map (fun i=>(i.zero,i.size,i.bytes))=some (some (J 0),1,8):=kR
def Lm {base:Nat} {B:Nat->Nat->Nat->Bool} (b:Bc) (w:wO) (N:Zi b base B w) (W:base<=w.heap.size) (V:1<=b.n) (aB:b.n<=16) (bR:1<=b.R) (aV:b.R<=128) :
  Cp 199 #[.slice (pA b.ob) b.n b.n] w fun e w'=>sW b base B w e w':=by
 have iA:=run_make_row' (P:=prog) 261 4 (.bool false) 1 underlying261 AT rfl .i64 .i64 b.n (by omega) (by omega);have iB:=run_make_row' (P:=prog) 34 3 (J 0) 8 underlying34 A4 rfl .i64 .i64 b.n (by omega) (by omega);have iC:=run_make_row' (P:=prog) 34 3 (J 0) 8 underlying34 A4 rfl .i64 .i64 b.R (by omega) (by omega);obtain⟨j0,ji,A,C,D⟩:=info_parts Ll;have m:=Z N;clear N;go_enter func199,ntmps199;go_wp2;go_region;all_goals (go_wp2)
 have a:Hid (jn b w (w.heap.size+1+1) w.heap.size (w.heap.size+1) 0 (fun _=>0) none 0 (((w.alloc (.cells (madeCells #[.bool false] b.n) 4)).alloc (.cells (madeCells #[J 0] b.n) 3)).alloc (.cells #[.slice (pA b.ob) b.n b.n,.slice (pA w.heap.size) b.n b.n,.slice (some (E ((w.heap.size+1)) 0)) b.n b.n,.slice none 0 0,J 0] 271)).drew):=Lh b w;generalize (((w.alloc (.cells (madeCells #[.bool false] b.n) 4)).alloc (.cells (madeCells #[J 0] b.n) 3)).alloc (.cells #[.slice (pA b.ob) b.n b.n,.slice (pA w.heap.size) b.n b.n,.slice (some (E ((w.heap.size+1)) 0)) b.n b.n,.slice none 0 0,J 0] 271)).drew=X at a ⊢;generalize w.heap.size+1+1=fb at a ⊢;generalize w.heap.size+1=pb at a ⊢;generalize f:w.heap.size=ib at a ⊢;clear f;rotate_left;have a:Hid (jn b w (w.heap.size+1+1) (w.heap.size+1) w.heap.size 0 (fun _=>0) none 0 (((w.alloc (.cells (madeCells #[J 0] b.n) 3)).alloc (.cells (madeCells #[.bool false] b.n) 4)).alloc (.cells #[.slice (pA b.ob) b.n b.n,.slice (some (E ((w.heap.size+1)) 0)) b.n b.n,.slice (pA w.heap.size) b.n b.n,.slice none 0 0,J 0] 271)).drew):=Lj b w;generalize (((w.alloc (.cells (madeCells #[J 0] b.n) 3)).alloc (.cells (madeCells #[.bool false] b.n) 4)).alloc (.cells #[.slice (pA b.ob) b.n b.n,.slice (some (E ((w.heap.size+1)) 0)) b.n b.n,.slice (pA w.heap.size) b.n b.n,.slice none 0 0,J 0] 271)).drew=X at a ⊢;generalize w.heap.size+1+1=fb at a ⊢;generalize w.heap.size+1=ib at a ⊢;generalize f:w.heap.size=pb at a ⊢;clear f
 all_goals (
  go_loopw [16] (fun z wr=>∃(j:Nat) (kb:Nat->Nat) (la:Option Addr) (lc:Nat),j<=b.n/\z=J j/\jn b w fb ib pb j kb la lc wr) (fun z _=>b.n - (intOf z).toNat)
  case atStart=>exact⟨0,_,_,_,Ql _,rfl,a⟩
  case round =>
   clear a
   obtain⟨j,kb,la,lc,hj,rfl,d⟩:=hrel
   by_cases q:j<b.n
   ·have ip:(j:Int)<(b.n:Int):=by omega
    have g:Hid (jn b w fb ib pb j kb la lc wr.drew):=d.gE (Qm _ wr 1)
    have aj:=d.fin.lt
    have cL:=d.fin.frozen 3
    have s:=m.gE d.bel
    have oz:=s.o.lt
    have rz:=(s.r j q).lt
    have k:Hid (∀w',Bw w w'->zr w' fb 271 5 (lP b ib pb (.slice la j lc))->w'.c fb 3=some (.slice la j lc)/\w'.c b.ob j=some (.slice (pA (b.rb j)) b.n b.n)/\w'.c (b.rb j) j=some (.slice (pA (b.cb j j)) b.R b.R)):=fun w' h1 h2=>⟨h2.cell (by decide),(m.gE h1).o.cell q,((m.gE h1).r j q).cell q⟩
    have L:=Z (fun w1 la' lc'=>@jn.next b w wr.drew w1 fb ib pb j kb la la' lc lc' g)
    clear d s
    generalize b.cb j j=cj at *
    generalize b.rb j=Q at *
    go_wp2
    refine rg 18 (fun w'=>w'.c fb 3=some (.slice la j lc)/\w'.c b.ob j=some (.slice (pA Q) b.n b.n)/\w'.c Q j=some (.slice (pA cj) b.R b.R)) (k _ g.bel g.fin) fun h9=>?_
    generalize wr.drew=y at *
    refine aq 0 ?_
    refine aq 2 ?_
    refine aq 4 ?_
    refine aq 6 ?_
    refine aq 8 ?_
    refine aq 10 ?_
    refine uk 12 ?_
    have t:jn b w fb ib pb j kb la lc (y.alloc (.cells (madeCells #[J 0] b.R) 3)):=g.gE (Qd _ _)
    have p:jn b w fb ib pb j kb la lc ((y.alloc (.cells (madeCells #[J 0] b.R) 3)).alloc (.cells #[.slice (pA y.heap.size) b.R b.R] 34)):=g.gE (QB _ _ _)
    have H:=k _ t.bel t.fin
    have F:=k _ p.bel p.fin
    have i:=Z p
    have G:=Z (Lk (y.alloc (.cells (madeCells #[J 0] b.R) 3)) (vP y.heap.size b.R b.R) 34)
    clear t p
    refine uo 13 fun K c=>?_
    go_simp
    refine bq c.o (.inr H) ?_
    clear c K
    refine uo 14 fun K c=>?_
    go_simp
    refine bq c.o (.inr F) ?_
    clear c K
    refine uo 15 fun K c=>?_
    refine step_append_lies _ (by rfl) (.tmp 23) (.tmp 33) 269 (by rfl) w.heap.size 34 j0 sN 1 24 underlying269 ji A C D rfl (by decide) _ j _ (by rfl) i.own (E (y.heap.size+1) 0) 1 1 [vP y.heap.size b.R b.R] (by rfl) rfl (by have h:=G;have e:(y.alloc (.cells (madeCells #[J 0] b.R) 3)).heap.size=y.heap.size+1:=(by simp);rw [e] at h;exact h) (by intro u O;simp at O;subst O;rfl) (by decide) (by unfold maxLen;omega) (by omega) i.bel.size _ rfl ?_
    intro g2 e2 w2 M v bj x
    obtain⟨S,l⟩:=L w2 _ _ M v
    have I:=k _ (i.bel.grown v i.bel.size (zR i.own)) l
    have c3:=l.cell (show 3<5 by decide)
    have f3:=l.frozen 3
    have z3:=l.lt
    have U:=Z S
    clear S l M v bj x H F
    refine bq c.o (.inr I) ?_
    clear c K
    refine aq 16 ?_
    refine uo 18 fun K c=>?_
    go_simp
    refine bq c.o (.inl rfl) ?_
    clear c K
    refine rd ?_
    clear h9 I c3 f3 z3 k L g i G
    go_wp2
    go_roundw
    case rel=>exact⟨j+1,_,_,_,by omega,by go_num,U⟩
    case measure=>simp [intOf];omega
   ·have e:j=b.n:=by omega
    have ip:¬(j:Int)<(b.n:Int):=by omega
    have T:Hid (sW b base B w (.returned (.pointer (pA fb))) wr):=by rw [e] at d;exact d.done m W V
    clear d e
    go_wp2
    go_ret
    exact T)
end
def sX (b:Bc) (base:Nat) (B:Nat->Nat->Nat->Bool) (w:wO) (e:Ending) (w':wO):Prop :=
 ∃(va:vO) (ok:Bool),e=.returned (.tuple #[va,.bool ok])/\Below base w w'/\(ok=false->mp b.n b.R B none)/\(ok->∃(pb:Nat) (Q:Nat->Int),va=.slice (pA pb) b.n b.n/\zr w' pb 3 b.n (fun i=>J (Q i))/\(∀m,m<b.n->0<=Q m/\Q m<b.R)/\mp b.n b.R B (some Q))
def Ln {base:Nat} {B:Nat->Nat->Nat->Bool} (b:Bc) (w:wO) (v:Zi b base B w) (hs:nK b.n b.R B) (L:base<=w.heap.size) (f:1<=b.n) (j:b.n<=16) (g:1<=b.R) (k:b.R<=128) :
  Cp 146 #[.slice (pA b.ob) b.n b.n] w fun e w'=>sX b base B w e w':=by
 have S:=Z (fun a (X:a<b.n)=>KG a w v X j g k);have T:=Z (Lm b w v L f j g k);have z:=Z hs;clear v hs;go_enter func146,ntmps146;go_wp2;go_loopw [8] (fun t wr=>∃a:Nat,a<=b.n/\t=J a/\(∀i,i<a->B i i 0=false)/\wr=w) (fun t _=>b.n - (intOf t).toNat)
 case atStart=>exact⟨0,Ql _,rfl,fun i hi=>absurd hi (Qv _),rfl⟩
 obtain⟨a,X,rfl,I,hw⟩:=hrel;subst hw;have q:=Z I;clear I;by_cases M:a<b.n
 ·have bL:(a:Int)<(b.n:Int):=by omega
  have l:=Z (S a M);obtain⟨bo,r⟩:∃bo,B a a 0=bo:=⟨_,rfl⟩;rw [r] at l;have Q:=Z r;clear r;cases bo with
  | true =>have m:Hid (sX b base B wr (.returned (.tuple #[sN,.bool false])) wr):=⟨_,_,rfl,QA _ _,fun _=>.inl ⟨⟨a,M,Q⟩,rfl⟩,fun h=>absurd h (by simp)⟩;go_wp2_with fail;refine l.mr fun x d=>?_;have d:=d.s;subst d;go_wp2_with fail;go_ret2;exact m
  | false =>
   have HN:Hid (∀i,i<a+1->B i i 0=false):=fun i hi=>by
    by_cases e:i=a
    ·rw [e];exact Q
    exact q i (by omega)
   go_wp2_with fail;refine l.mr fun x d=>?_;have d:=d.s;subst d;go_wp2_with fail;go_roundw
   case rel=>exact⟨a+1,by omega,by go_num,HN,by trivial⟩
   simp [intOf];omega
 have bL:¬(a:Int)<(b.n:Int):=by omega
 have H:Hid (∀i,i<b.n->B i i 0=false):=fun i hi=>q i (by omega);clear q S;go_wp2_with fail;refine T.m ?_;rintro e x1 ⟨c,im,rfl,hF,P⟩;subst im;have D:=Z (P.m L);have C:=Z (A1 0 0 x1 ⟨f,j,g,k⟩ hF f g (by decide) (by decide) (fun a _ p _=>by decide));clear hF P T;go_wp2_with fail;refine C.m ?_;rintro e x ⟨rfl,hF,N⟩;have aW:=Z (D.t N);have HF:=Z hF;have V:=(jt.start (n:=c.b.n) (B:=B) (show 1<=(c.b.R:Int) by omega)).put z (a:=0) f rfl (p:=0) (by omega) rfl (by decide);have G:=Z (fun W (hW:Bw x W)=>Le (base:=base) ⟨f,j,g,k⟩ z c.b.n _ _ _ _ W (hF.gE hW) V (by omega));have aj:=hF.fin.lt;obtain⟨f0,f1,f2,f3,f4⟩:=hF.fields;clear hF N C V D f0 f1 f3 f4;go_wp2_with fail;refine Qq ?_;refine zg 99 (fun w'=>w'.c c.fb 2=some (vP c.pb c.b.n c.b.n)) (by kernel_rfl) f2 (fun h9=>?_);refine aq 0 ?_;refine aq 2 ?_;refine uk 4 ?_;refine uo 5 fun K U=>?_;go_simp;refine (G _ (Qm _ _ 1)).m ?_;rintro e x3 ⟨bo,A,o,y,k3,rfl,s,F,ai,u,O⟩;obtain⟨-,-,g2,-,-⟩:=s.fields;have m:Hid (sX c.b base B wr (.returned (.tuple #[vP c.pb c.b.n c.b.n,.bool bo])) x3):=⟨_,_,rfl,aW.t ((Qm _ _ 1).t O),fun h=>.inr ⟨H,bo,A,o,y,k3,u,by rw [h];rfl⟩,fun h=>⟨c.pb,o,rfl,s.pr,F.pr,.inr ⟨H,bo,A,o,y,k3,u,by rw [h];rfl⟩⟩⟩;clear s F ai u O G;refine bq U.o (.inr g2) ?_;clear U K;refine aq 6 ?_;refine rd ?_;go_wp2;go_ret2;exact m
section
def Lo:(prog.info? 278).map (fun i=>(i.zero,i.size,i.bytes))=some (some (.agg #[J 0,J 0,J 0,.bool false]),4,32):=kR
def Lq (n:Nat) (hn:n<=16) (w:wO):(Instr.makeSlice 219 (J (n:Int)) (J (n:Int))).run prog w=.ok (.slice (pA w.heap.size) n n) (w.alloc (.cells (madeCells #[J 0,J 0,J 0,.bool false] (n*4)) 278)):=by obtain⟨i,hi,a⟩:=WT.1 Lo;simp only [Prod.mk.injEq] at a;obtain⟨b,hs,hb⟩:=a;have hr:=run_make (P:=prog) w 219 278 i _ underlying219 hi b .i64 .i64 n n lI (QR _) (by rw [hb];lia) lI;simp only [QL,hs] at hr;exact hr
def A5:Lf:=⟨fun _=>0,fun _=>0,fun _=>0,fun _=>false⟩
theorem cy.start (w:wO) (n:Nat):cy n w.heap.size A5 (w.alloc (.cells (madeCells #[J 0,J 0,J 0,.bool false] (n*4)) 278)):=by
 refine zr.made w _ _ _ _ (by rw [size_madeCells];exact Qc _) fun i hi=>?_;unfold madeCells Us A5;simp only [Array.getElem?_map,Array.getElem?_range,hi,Option.map_some,if_true];have a:i % 4<4:=E7 _ tQ;show some ((#[J 0,J 0,J 0,.bool false]:Array vO)[i % 4]!)=_;obtain e | e | e | e:i % 4=0\/i % 4=1\/i % 4=2\/i % 4=3:=lI
 all_goals (rw [e];rfl)
variable {n lb:Nat} {l l':Lf} {x:wO}
theorem cy.congr (h:cy n lb l x) (h1:∀a,a<n->l.rd a=l'.rd a/\l.un a=l'.un a/\l.bk a=l'.bk a/\l.ou a=l'.ou a):cy n lb l' x:=by grind [cy,zr.congr,Us]
def cy.setRd (h:cy n lb l x) (b:a<n) (v:Int):cy n lb ⟨b9 l.rd a v,l.un,l.bk,l.ou⟩ (x.setCell (E lb (a*4)) (J v)):=by grind [cy,b9,zr.congr,zr.set,Us]
def cy.setUn (h:cy n lb l x) (b:a<n) (v:Int):cy n lb ⟨l.rd,b9 l.un a v,l.bk,l.ou⟩ (x.setCell (E lb (a*4+1)) (J v)):=by grind [cy,b9,zr.congr,zr.set,Us]
def cy.setBk (h:cy n lb l x) (b:a<n) (v:Int):cy n lb ⟨l.rd,l.un,b9 l.bk a v,l.ou⟩ (x.setCell (E lb (a*4+2)) (J v)):=by grind [cy,b9,zr.congr,zr.set,Us]
def cy.setOu (h:cy n lb l x) (b:a<n) (v:Bool):cy n lb ⟨l.rd,l.un,l.bk,bX l.ou a v⟩ (x.setCell (E lb (a*4+3)) (.bool v)):=by grind [cy,bX,zr.congr,zr.set,Us]
def j8 (L:Lp) (t:Tg) (T:Li) (k:Nat):Lf:=⟨fun a=>if a<k then ak T a+yj t (zc L.b a).o else 0,fun a=>if a<k then ak T a+yj t (zc L.b a).o - 1 else 0,fun _=>0,fun _=>false⟩
def dd (L:Lp) (t:Tg) (P:Int) (T:Li) (s i:Nat):Lf:=⟨fun a=>ak T a+yj t (zc L.b a).o,fun a=>j2 (zu (zc L.b s)) a P (ak T s) (kH L t P T a s) i,fun a=>UO (zu (zc L.b s)) a (lr L a s) i,fun _=>false⟩
def mt (L:Lp) (t:Tg) (P:Int) (T:Li) (o:Nat):Lf:=⟨fun a=>ak T a+yj t (zc L.b a).o,fun a=>kH L t P T a L.b.length,fun a=>lw L a,fun a=>nJ L.o a o⟩
def cy.one {k:Nat} (h:cy n lb (j8 L t T k) x) (c:k<n) :
  cy n lb (j8 L t T (k+1)) ((((x.setCell (E lb (k*4)) (J (ak T k+yj t (zc L.b k).o))).setCell (E lb (k*4+1)) (J (ak T k+yj t (zc L.b k).o - 1))).setCell (E lb (k*4+2)) (J 0)).setCell (E lb (k*4+3)) (.bool false)):=by
 refine ((((h.setRd c _).setUn c _).setBk c 0).setOu c false).congr fun a d=>?_;grind [j8,b9,bX]
def cy.two (h:cy L.b.length lb (j8 L t T L.b.length) x):cy L.b.length lb (dd L t P T 0 0) x:=by refine h.congr fun a c=>?_;unfold j8 dd;simp only [Qf c];exact⟨trivial,rfl,rfl,trivial⟩
def Lr (L:Lp) (t:Tg) (P:Int) (T:Li) (s:Nat):dd L t P T s (zu (zc L.b s)).length=dd L t P T (s+1) 0:=rfl
theorem Ls (L:Lp) (t:Tg) (P:Int) (T:Li):dd L t P T L.b.length 0=mt L t P T 0:=rfl
theorem Lt (L:Lp) (t:Tg) (P:Int) (T:Li):mt L t P T L.o.length=Uc L t P T:=rfl
def cy.told (h:cy n lb (mt L t P T o) x) (b:at'<n) (c:ak L.o o=(at':Int)):cy n lb (mt L t P T (o+1)) (x.setCell (E lb (at'*4+3)) (.bool true)):=by
 refine (h.setOu b true).congr fun a _=>⟨rfl,rfl,rfl,?_⟩;show bX (fun a=>nJ L.o a o) at' true a=(nJ L.o a o || decide (ak L.o o=(a:Int)));grind [bX]
def Lu (h:zZ L t P T) (hs:s<L.b.length) (hi:i<=(zu (zc L.b s)).length) (k:a<L.b.length):0<=(dd L t P T s i).un a/\(dd L t P T s i).un a<=1606/\0<=(dd L t P T s i).bk a/\(dd L t P T s i).bk a<=3:=by
 obtain⟨h1,g,y,j,-,-,-⟩:=yw h;have z:=Y4 (zc L.b a).o g;obtain⟨m,n,-⟩:=Z4 h k;have c:∀s,s<L.b.length->∀i,i<(zu (zc L.b s)).length->(zO (zu (zc L.b s)) i).1=(a:Int)->ak T s+(zO (zu (zc L.b s)) i).2*P<=1606:=fun s hs i hi _=>by obtain⟨r1,r2,A,l⟩:=XT h1 hs _ (Xn hi);obtain⟨B,C,-⟩:=Z4 h hs;have hb:(zO (zu (zc L.b s)) i).2*P<=3*200:=Wy l j lI lI;lia
 have p:=AG L t P T a s;have q:=AE (zu (zc L.b s)) a P (ak T s) (kH L t P T a s) i;have d:=AH L t P T a 1606 lI L.b.length c s lI;have r:=lM (zu (zc L.b s)) a P (ak T s) (kH L t P T a s) 1606 d (c s hs) i hi;have u:=ui L a s;have v:=Dv (zu (zc L.b s)) a (lr L a s) i;have f:=uh h1 a s lI;have x:=Dw (zu (zc L.b s)) a (lr L a s) 3 f (fun i hi=>(XT h1 hs _ (Xn hi)).2.2.2) i hi;show 0<=j2 _ _ _ _ _ _/\j2 _ _ _ _ _ _<=1606/\0<=UO _ _ _ _/\UO _ _ _ _<=3;lia
def Lv (h:zZ L t P T):nL L.b.length (Uc L t P T):=by
 obtain⟨h1,g,q,j,-,-,-⟩:=yw h;have k:∀a:Nat,∀s,s<L.b.length->∀i,i<(zu (zc L.b s)).length->(zO (zu (zc L.b s)) i).1=(a:Int)->ak T s+(zO (zu (zc L.b s)) i).2*P<=1606:=fun a s hs i hi _=>by obtain⟨r1,r2,r,m⟩:=XT h1 hs _ (Xn hi);obtain⟨u,v,-⟩:=Z4 h hs;have hb:(zO (zu (zc L.b s)) i).2*P<=3*200:=Wy m j lI lI;lia
 refine⟨fun a c=>?_,fun a c=>?_,fun a c=>⟨ui L a _,uh h1 a _ (Qc _)⟩⟩
 ·have l:=Y4 (zc L.b a).o g;obtain⟨d,f,-⟩:=Z4 h c;show 1<=ak T a+yj t (zc L.b a).o/\ak T a+yj t (zc L.b a).o<=1006;lia
 have l:=Y4 (zc L.b a).o g;obtain⟨d,f,-⟩:=Z4 h c;have n:=AG L t P T a L.b.length;have p:=AH L t P T a 1606 lI L.b.length (k a) L.b.length (Qc _);show 0<=kH L t P T a L.b.length/\kH L t P T a L.b.length<=1606;lia
end
theorem Lx (w:wO):(sizeOf (prog.elem 279)).run prog w=.ok 2 w:=kR
def Ly (g n:Nat) (hn:n<=2) (w:wO):(Instr.sliceAt 279 (.pointer (pA g)) none (some (J (n:Int))) none).run prog w=.ok (.slice (pA g) n 2) w:=by
 have b:prog.underlying 279=some (.array (prog.arrayLen 279) (prog.elem 279)):=kR
 have a:prog.arrayLen 279=2:=kR
 rw [run_sliceAt_array_h w _ _ b .i64 n lI (by rw [a];lia),Lx,a];simp [slicedAt,Result.andThen_ok,Addr.add]
def Lz:(279:TypeId)≠278:=tQ
def A6 {x:wO} {lb n:Nat} {l:Lf} {f:Nat->vO} (h:zr x g 279 4 f) (b:cy n lb l x) (i:Nat) (v:vO):zr (x.setCell (E lb i) v) g 279 4 f:=by have a:g≠lb:=zr.apart h (show zr x lb 278 (n*4) (Us l) from b) Lz;exact h.gF a v
def cy.read2 {n lb:Nat} {x:wO} {ra:Nat} {u:Int} (d:u=(if (dd L t P T s i).un ra<ak T s+(zO (zu (zc L.b s)) i).2*P then ak T s+(zO (zu (zc L.b s)) i).2*P else (dd L t P T s i).un ra))
  (h:cy n lb ⟨(dd L t P T s i).rd,b9 (dd L t P T s i).un ra u,(dd L t P T s i).bk,(dd L t P T s i).ou⟩ x) (c:ra<n) (hr:(zO (zu (zc L.b s)) i).1=(ra:Int)) :
  cy n lb (dd L t P T s (i+1)) (x.setCell (E lb (ra*4+2)) (J (if (dd L t P T s i).bk ra<(zO (zu (zc L.b s)) i).2 then (zO (zu (zc L.b s)) i).2 else (dd L t P T s i).bk ra))):=by
 refine (h.setBk c _).congr fun a f=>?_;rw [d];unfold dd b9;grind [j2,UO]
def A7 (L:Lp) (t:Tg) (P:Int) (T:Li) (w:wO) (e:Ending) (w':wO):Prop:=∃lb,e=.returned (.slice (pA lb) L.b.length L.b.length)/\cy L.b.length lb (Uc L t P T) w'/\w.heap.size<=lb/\Bw w w'
set_option maxRecDepth 100000 in
def LA (m:Tg) (L:Lp) (a0 z:Option Addr) (b c D n v:Nat) (P:Int) (T:Li) (tb to tc:Nat) (w:wO) (aA:zZ L m P T) (af:b<w.heap.size) (gQ:∀i,i<L.b.length->∀j,j<9->w.cell? (E b (c+i*9+j))=(zG (zc L.b i))[j]?) (fG:L.b.length<=n) (fH:n<=9223372036854775807)
  (bS:tb<w.heap.size) (aa:∀i,i<T.length->w.cell? (E tb (to+i))=Y (ak T i)) (cW:T.length<=tc) (fR:tc<=9223372036854775807)
  (aF:0<L.o.length->∃ob oo,z=some (E ob oo)/\ob<w.heap.size/\∀i,i<L.o.length->w.cell? (E ob (oo+i))=Y (ak L.o i)) (cS:L.o.length<=v) (fL:v<=9223372036854775807) :
  Cp 148 #[(lv L a0 (some (E b c)) z D n v),(tV m),.agg #[J P,.slice (some (E tb to)) T.length tc]] w fun e w'=>A7 L m P T w e w':=by
 obtain⟨hm,cM,fM,eA,cU,-,-⟩:=yw aA;obtain⟨-,dR,dn,-⟩:=zy hm;have df:=Z aA;have dj:=Z (fun s (h:s<L.b.length)=>Z4 aA h);have i9:=Z (fun o=>Y4 (t:=m) o cM);have ic:=Z (fun op W=>Vc m op W);have bg:=Z cU;have aM:=Z gQ;have di:=Z aa;have dK:=Z aF;have HM:=Z hm;have HS:Hid ((((w.alloc (lC L a0 (some (E b c)) z D n v)).alloc (tO m)).alloc (.cells #[J P,.slice (some (E tb to)) T.length tc] 110)).heap.size=w.heap.size+1+1+1):=by show _=_;simp
 have ab:Hid (cy L.b.length (w.heap.size+1+1+1) (j8 L m T 0) ((((w.alloc (lC L a0 (some (E b c)) z D n v)).alloc (tO m)).alloc (.cells #[J P,.slice (some (E tb to)) T.length tc] 110)).alloc (.cells (madeCells #[J 0,J 0,J 0,.bool false] (L.b.length*4)) 278))):=by have h:=cy.start (((w.alloc (lC L a0 (some (E b c)) z D n v)).alloc (tO m)).alloc (.cells #[J P,.slice (some (E tb to)) T.length tc] 110)) L.b.length;rw [HS] at h;exact h.congr fun a _=>⟨rfl,rfl,rfl,rfl⟩
 have fg:Hid (Below (w.heap.size+1+1+1) (((w.alloc (lC L a0 (some (E b c)) z D n v)).alloc (tO m)).alloc (.cells #[J P,.slice (some (E tb to)) T.length tc] 110)) ((((w.alloc (lC L a0 (some (E b c)) z D n v)).alloc (tO m)).alloc (.cells #[J P,.slice (some (E tb to)) T.length tc] 110)).alloc (.cells (madeCells #[J 0,J 0,J 0,.bool false] (L.b.length*4)) 278))):=by have h:=Qd (((w.alloc (lC L a0 (some (E b c)) z D n v)).alloc (tO m)).alloc (.cells #[J P,.slice (some (E tb to)) T.length tc] 110)) (.cells (madeCells #[J 0,J 0,J 0,.bool false] (L.b.length*4)) 278);rw [HS] at h;exact h
 have iy:=Lq L.b.length dn;clear aA hm cM cU gQ aa aF;go_enter func148,ntmps148;go_wp2;clear iy;go_loopw [25] (fun A wr=>∃k:Nat,k<=L.b.length/\A=J k/\cy L.b.length (w.heap.size+1+1+1) (j8 L m T k) wr/\Below (w.heap.size+1+1+1) (((w.alloc (lC L a0 (some (E b c)) z D n v)).alloc (tO m)).alloc (.cells #[J P,.slice (some (E tb to)) T.length tc] 110)) wr) (fun A _=>L.b.length - (intOf A).toNat)
 case atStart=>exact⟨0,Ql _,rfl,ab,fg⟩
 clear ab fg;obtain⟨k,hk,rfl,d,l⟩:=hrel;have B:=Z d;have F:=Z l;obtain⟨⟨l0,l1,l2⟩,⟨U,t1,t2,t3,t4,t5,t6⟩,⟨y0,y1⟩,hz,C⟩:=Z3 l;have H:=Z C;have N:=d.lt;clear l d C;by_cases I:k<L.b.length
 ·have ep:(k:Int)<(L.b.length:Int):=oM
  have cJ:b<wr.heap.size:=oM
  have bF:tb<wr.heap.size:=oM
  have c0:=(Ue (fun j hj=>(ze H b (c+k*9+j) af).t (aM k I j hj))).1;have iq:(k:Int)<(T.length:Int):=by have:=bg.o;omega
  have cT:=(ze H tb (to+k) bS).t (di k oM);obtain⟨tm1,tm2,-⟩:=dj k I;have az:=Z (fun W (hW:Bw wr W)=>(B.gE hW B.lt).one I);have cg:=Z (fun W (hW:Bw wr W)=>B.gE hW B.lt);have dQ:=Z (ic (zc L.b k).o);obtain⟨wv1,wv2⟩:=i9 (zc L.b k).o;obtain⟨wv,fS⟩:=nm (yj m (zc L.b k).o);rw [fS] at dQ wv1 wv2 az;generalize (zc L.b k).o=oo at *
  generalize ak T k=tk at *
  have iL:w.heap.size<wr.heap.size:=oM
  have fT:w.heap.size+1<wr.heap.size:=oM
  have iM:w.heap.size+1+1<wr.heap.size:=oM
  have ay:Hid (∀w':wO,Bw wr w'->w'.cell? (E w.heap.size 1)=some (.slice (some (E b c)) L.b.length n)/\w'.cell? (E (w.heap.size+1) 0)=Y m.u0/\w'.cell? (E (w.heap.size+1) 1)=Y m.u1/\w'.cell? (E (w.heap.size+1) 2)=Y m.u2/\w'.cell? (E (w.heap.size+1) 3)=Y m.w0/\w'.cell? (E (w.heap.size+1) 4)=Y m.w1/\w'.cell? (E (w.heap.size+1) 5)=Y m.w2/\w'.cell? (E (w.heap.size+1) 6)=Y m.r/\w'.cell? (E (w.heap.size+1+1) 1)=some (.slice (some (E tb to)) T.length tc)/\w'.cell? (E b (c+k*9))=Y oo/\w'.cell? (E tb (to+k))=Y tk):=by intro w' h;refine⟨?_,?_,?_,?_,?_,?_,?_,?_,?_,?_,?_⟩;all_goals (rw [ze h _ _ oM];assumption)
  clear fS;go_wp2;refine rh 99 ay (Qm _ _ 1) fun S=>?_;refine aq 0 ?_;refine aq 2 ?_;refine aq 4 ?_;refine aq 6 ?_;refine aq 8 ?_;refine aq 10 ?_;refine uo 12 fun K p=>?_;go_simp;refine (dQ _).m ?_;rintro e y ⟨rfl,hy⟩;have HY:=Z ((Qm wr.heap.size wr 1).t (show Below wr.heap.size wr.drew y from hy));have S:=ay _ HY;clear hy;refine bq p.o (.inr S) ?_;clear p K;have iX:IntKind.i64.wrap (tk+wv)=tk+wv:=xG _ oM oM;refine aq 13 ?_;refine rd ?_;have Q:=Z (az y HY);have R:=cg y HY;have iY:=R.lt;obtain⟨v0,v1,v2,v3⟩:=R.cells I;have z0:=zr.frozen R (k*4);have z1:=zr.frozen R (k*4+1);have z2:=zr.frozen R (k*4+2);have z3:=zr.frozen R (k*4+3);have dC:wrap64 (tk+wv)=tk+wv:=by unfold wrap64;omega
  have eK:wrap64 (tk+wv - 1)=tk+wv - 1:=by unfold wrap64;omega
  generalize (j8 L m T k).rd k=e0 at *
  generalize (j8 L m T k).un k=e1 at *
  generalize (j8 L m T k).bk k=e2 at *
  generalize (j8 L m T k).ou k=e3 at *
  clear S ay R az cg dQ l0 l1 l2 U t1 t2 t3 t4 t5 t6 y0 y1 c0 cT;go_wp2;go_roundw
  case rel=>exact⟨k+1,oM,nQ,Q,(F.t (HY.m oM)).setCell (Qc _) _ |>.setCell (Qc _) _ |>.setCell (Qc _) _ |>.setCell (Qc _) _⟩
  simp [intOf];omega
 have e:k=L.b.length:=oM
 have ep:¬(k:Int)<(L.b.length:Int):=oM
 have fi:Hid (cy L.b.length (w.heap.size+1+1+1) (dd L m P T 0 0) wr):=by have h:=B;rw [e] at h;exact h.two
 clear e B;rename wO=>wa;go_wp2;clear l0 l1 l2 U t1 t2 t3 t4 t5 t6 y0 y1;go_loopw [53] (fun A wr=>∃s:Nat,s<=L.b.length/\A=J s/\cy L.b.length (w.heap.size+1+1+1) (dd L m P T s 0) wr/\Below (w.heap.size+1+1+1) (((w.alloc (lC L a0 (some (E b c)) z D n v)).alloc (tO m)).alloc (.cells #[J P,.slice (some (E tb to)) T.length tc] 110)) wr) (fun A _=>L.b.length - (intOf A).toNat)
 case atStart=>exact⟨0,Ql _,rfl,fi,F⟩
 clear fi F H N hz;obtain⟨s,hs,rfl,d,l⟩:=hrel;have B:=Z d;have F:=Z l;obtain⟨⟨l0,l1,l2⟩,⟨U,t1,t2,t3,t4,t5,t6⟩,⟨y0,y1⟩,hz,C⟩:=Z3 l;have H:=Z C;have N:=d.lt;clear l d C;by_cases G:s<L.b.length
 ·have iF:(s:Int)<(L.b.length:Int):=oM
  have cJ:b<wr.heap.size:=oM
  obtain⟨c0,c1,c2,c3,c4,c5,c6,c7,c8⟩:=Ue (fun j hj=>(ze H b (c+s*9+j) af).t (aM s G j hj));obtain⟨ix,eu⟩:=Ud (zq (zy HM).2.2.2.2.2.2 s G);have i8:=Z (fun i (h:i<(zu (zc L.b s)).length)=>XT HM G _ (Xn h));have gW:=Z (fun i a (h:i<=(zu (zc L.b s)).length) (ha:a<L.b.length)=>Lu df G h ha);have gy:=Z (fun i ra (X:wO) (u:Int) (hu:u=(if (dd L m P T s i).un ra<ak T s+(zO (zu (zc L.b s)) i).2*P then ak T s+(zO (zu (zc L.b s)) i).2*P else (dd L m P T s i).un ra)) (h:cy L.b.length (w.heap.size+1+1+1) ⟨(dd L m P T s i).rd,b9 (dd L m P T s i).un ra u,(dd L m P T s i).bk,(dd L m P T s i).ou⟩ X) (M:ra<L.b.length) (hr:(zO (zu (zc L.b s)) i).1=(ra:Int))=>cy.read2 hu h M hr);have cu:Hid (dd L m P T s (zu (zc L.b s)).length=dd L m P T (s+1) 0):=Lr _ _ _ _ _;have dh:=Z (Ca (wr.alloc (.cells #[J (zc L.b s).o,J (zc L.b s).xa,J (zc L.b s).xb,J (zc L.b s).ya,J (zc L.b s).yb,J (zc L.b s).ar,J (zc L.b s).sp,J (zc L.b s).pl,J (zc L.b s).nn] 144)) (J (zc L.b s).xa) (J (zc L.b s).xb) (J (zc L.b s).ya) (J (zc L.b s).yb) 279 (ke (zc L.b s)) rfl rfl rfl rfl);have ez:(wr.alloc (.cells #[J (zc L.b s).o,J (zc L.b s).xa,J (zc L.b s).xb,J (zc L.b s).ya,J (zc L.b s).yb,J (zc L.b s).ar,J (zc L.b s).sp,J (zc L.b s).pl,J (zc L.b s).nn] 144)).heap.size=wr.heap.size+1:=sM
  rw [ez] at dh;have gO:=Z (fun (x:wO) (g:Nat) (h:zr x g 279 4 (ke (zc L.b s))) i (hi:i<(zu (zc L.b s)).length)=>tE h hi);generalize hxk:zc L.b s=xk at *
  clear hxk ez;obtain⟨o,xa,xb,ya,yb,ar,sp,pl,nn⟩:=xk;generalize zu ⟨o,xa,xb,ya,yb,ar,sp,pl,nn⟩=O at *
  (try simp only at c0 c1 c2 c3 c4 c5 c6 c7 c8 dh ix);have eH:=Ly (wr.heap.size+1) O.length eu;rename wO=>wo;go_wp2_with (go_at_call 81;refine (Zu _ _).m ?_;rintro e w' ⟨rfl,rfl⟩);clear l0 l1 l2 U t1 t2 t3 t4 t5 t6 y0 y1 c0 c1 c2 c3 c4 c5 c6 c7 c8;go_loopw [71] (fun A wr=>∃i:Nat,i<=O.length/\A=J i/\zr wr (wo.heap.size+1) 279 4 (ke ⟨o,xa,xb,ya,yb,ar,sp,pl,nn⟩)/\cy L.b.length (w.heap.size+1+1+1) (dd L m P T s i) wr/\Below (w.heap.size+1+1+1) (((w.alloc (lC L a0 (some (E b c)) z D n v)).alloc (tO m)).alloc (.cells #[J P,.slice (some (E tb to)) T.length tc] 110)) wr) (fun A _=>O.length - (intOf A).toNat)
  case atStart=>exact⟨0,Ql _,rfl,dh,B.gE (QB wo _ _) B.lt,F.t ((QB wo _ _).m (Q7 N))⟩
  clear B F H dh N hz cJ eH;obtain⟨i,hi,rfl,gI,d,l⟩:=hrel;have B:=Z d;have F:=Z l;have HR:=Z gI;obtain⟨⟨l0,l1,l2⟩,⟨U,t1,t2,t3,t4,t5,t6⟩,⟨y0,y1⟩,hz,C⟩:=Z3 l;have H:=Z C;have N:=d.lt;have iN:wo.heap.size+1<wr.heap.size:=gI.lt;by_cases hil:i<O.length
  ·have io:(i:Int)<(O.length:Int):=(by omega);obtain⟨u1,u2,u3,u4⟩:=i8 i hil;obtain⟨f0,f1⟩:=gO wr _ gI i hil;have aY:=Z (fun ra X u hu h=>gy i ra X u hu h);have cw:=Z (fun a ha=>gW i a oM ha);generalize zO O i=rf at *
   obtain⟨ra',rb⟩:=rf;(try simp only at f0 f1 u1 u2 u3 u4 aY);obtain⟨ra,rfl⟩:=QX u1;have M:ra<L.b.length:=(by omega);have iE:(ra:Int)<(L.b.length:Int):=(by omega);obtain⟨g1,g2,g3,g4⟩:=cw ra M;obtain⟨v0,v1,v2,v3⟩:=d.cells M;have z1:=zr.frozen d (ra*4+1);have z2:=zr.frozen d (ra*4+2);have iT:(s:Int)<(T.length:Int):=(by have:=bg.o;omega);have bF:tb<wr.heap.size:=(by omega);have cT:=(ze H tb (to+s) bS).t (di s oM);obtain⟨tm1,tm2,-⟩:=dj s G;have eB:0<=rb*P:=Ws oM oM;have eC:rb*P<=3*200:=Wy u4 eA oM oM;have dN:Hid (∀(X:wO) (u:Int),u=(if (dd L m P T s i).un ra<ak T s+rb*P then ak T s+rb*P else (dd L m P T s i).un ra)->cy L.b.length (w.heap.size+1+1+1) ⟨(dd L m P T s i).rd,b9 (dd L m P T s i).un ra u,(dd L m P T s i).bk,(dd L m P T s i).ou⟩ X->cy L.b.length (w.heap.size+1+1+1) (dd L m P T s (i+1)) (X.setCell (E ((w.heap.size+1+1+1)) (ra*4+2)) (J (if (dd L m P T s i).bk ra<rb then rb else (dd L m P T s i).bk ra)))):=fun X u hu hZ=>aY ra X u hu hZ M rfl;have bZ:Hid (cy L.b.length (w.heap.size+1+1+1) (dd L m P T s i) (wr.alloc (.cells #[J (ra:Int),J rb] 142))):=d.gE (Qd _ _) d.lt;have gx:Hid (zr (wr.alloc (.cells #[J (ra:Int),J rb] 142)) (wo.heap.size+1) 279 4 (ke ⟨o,xa,xb,ya,yb,ar,sp,pl,nn⟩)):=gI.alloc _;have aI:Hid (Below (w.heap.size+1+1+1) (((w.alloc (lC L a0 (some (E b c)) z D n v)).alloc (tO m)).alloc (.cells #[J P,.slice (some (E tb to)) T.length tc] 110)) (wr.alloc (.cells #[J (ra:Int),J rb] 142))):=l.t ((Qd wr _).m (Q7 N));generalize ak T s=f at *
   obtain⟨un,dB⟩:=nm ((dd L m P T s i).un ra);have i7:=Z dB;have dD:Hid (∃bk,(dd L m P T s i).bk ra=bk):=⟨_,rfl⟩;obtain⟨bk,dw⟩:=nm ((dd L m P T s i).bk ra);have fW:Hid ((some (J ((dd L m P T s i).bk ra)):Option vO)=Y bk):=(by show _=_;rw [dw]);clear dD;rw [dB,dw] at dN;rw [dB] at v1 g1 g2;rw [dw] at v2 g3 g4;obtain⟨pr,bD⟩:=nm (rb*P);rw [bD] at dN eB eC;have dC:wrap64 (rb*P)=pr:=(by rw [bD];unfold wrap64;omega);have eK:wrap64 (f+pr)=f+pr:=(by unfold wrap64;omega);have iH:IntKind.i64.wrap (rb*P)=pr:=(by rw [bD];exact xG _ oM oM);have iI:IntKind.i64.wrap (f+pr)=f+pr:=xG _ oM oM;have eq:¬wr.heap.size=(w.heap.size+1+1+1):=(by omega);have er:¬(w.heap.size+1+1+1)=wr.heap.size:=(by omega);clear gI d l C dB dw bD v0 v3 l0 l2 U t1 t2 t3 t4 t5 t6 aY cw;have eV:Hid ((wr.alloc (.cells #[J (ra:Int),J rb] 142)).heap[wr.heap.size]?=some (.cells #[J (ra:Int),J rb] 142 (0,0))):=zm _ _ _;have cx:Hid ((wr.alloc (.cells #[J (ra:Int),J rb] 142)).cell? (E ((w.heap.size+1+1+1)) (ra*4+1))=Y un/\(wr.alloc (.cells #[J (ra:Int),J rb] 142)).cell? (E (w.heap.size+1+1) 1)=some (.slice (some (E tb to)) T.length tc)/\(wr.alloc (.cells #[J (ra:Int),J rb] 142)).cell? (E (w.heap.size+1+1) 0)=Y P/\(wr.alloc (.cells #[J (ra:Int),J rb] 142)).cell? (E tb (to+s))=Y f/\(wr.alloc (.cells #[J (ra:Int),J rb] 142)).cell? (E wr.heap.size 1)=Y rb):=by
    obtain⟨-,m.w1,-,-⟩:=bZ.cells M;obtain⟨-,-,⟨k0,k1⟩,-,-⟩:=Z3 aI;have q6:=(ze (Qd wr (.cells #[J (ra:Int),J rb] 142)) tb (to+s) bF).t cT;refine⟨?_,k1,k0,q6,?_⟩
    ·rw [m.w1,i7]
    rw [Qa eV];rfl
   have f7:=zr.frozen bZ (ra*4+1);have iP:=bZ.lt;go_wp2;clear y0 y1 f0 f1 v1 v2 cT z1 z2;have z1:=f7;generalize wr.alloc (.cells #[J (ra:Int),J rb] 142)=V at *
   generalize wr.heap.size=gz at *
   refine rg 19 (fun w'=>w'.cell? (E ((w.heap.size+1+1+1)) (ra*4+1))=Y un/\w'.cell? (E (w.heap.size+1+1) 1)=some (.slice (some (E tb to)) T.length tc)/\w'.cell? (E (w.heap.size+1+1) 0)=Y P/\w'.cell? (E tb (to+s))=Y f/\w'.cell? (E gz 1)=Y rb) cx fun S=>?_;refine aq 0 ?_;refine aq 2 ?_;refine aq 4 ?_;refine aq 6 ?_;refine aq 8 ?_;refine aq 10 ?_;refine aq 12 ?_;refine aq 14 ?_;refine aq 16 ?_;refine uk 18 ?_;refine uo 19 fun K p=>?_;go_simp;refine bq p.o (.inl rfl) ?_;clear p K;refine rd ?_;have HZ:Hid (cy L.b.length (w.heap.size+1+1+1) ⟨(dd L m P T s i).rd,b9 (dd L m P T s i).un ra (if un<f+pr then f+pr else un),(dd L m P T s i).bk,(dd L m P T s i).ou⟩ ((V.setCell (E ((w.heap.size+1+1+1)) (ra*4+1)) (J (if un<f+pr then f+pr else un))).drew)):=(bZ.setUn M (if un<f+pr then f+pr else un):cy _ _ _ (V.setCell _ _));have ij:Hid (zr ((V.setCell (E ((w.heap.size+1+1+1)) (ra*4+1)) (J (if un<f+pr then f+pr else un))).drew) (wo.heap.size+1) 279 4 (ke ⟨o,xa,xb,ya,yb,ar,sp,pl,nn⟩)):=A6 gx bZ _ _;have ig:Hid (Below (w.heap.size+1+1+1) (((w.alloc (lC L a0 (some (E b c)) z D n v)).alloc (tO m)).alloc (.cells #[J P,.slice (some (E tb to)) T.length tc] 110)) ((V.setCell (E ((w.heap.size+1+1+1)) (ra*4+1)) (J (if un<f+pr then f+pr else un))).drew)):=(aI.setCell (Qc _) _).t (Qm _ _ 1);have ii:Hid (((V.setCell (E ((w.heap.size+1+1+1)) (ra*4+1)) (J (if un<f+pr then f+pr else un))).drew).cell? (E gz 1)=Y rb):=(by have h:((V.setCell (E ((w.heap.size+1+1+1)) (ra*4+1)) (J (if un<f+pr then f+pr else un))).drew).heap[gz]?=some (.cells #[J (ra:Int),J rb] 142 (0,0)):=(Qj V _ _ _ eq).t eV;rw [Qa h];rfl);have dE:Hid (∀X,cy L.b.length (w.heap.size+1+1+1) ⟨(dd L m P T s i).rd,b9 (dd L m P T s i).un ra (if un<f+pr then f+pr else un),(dd L m P T s i).bk,(dd L m P T s i).ou⟩ X->cy L.b.length (w.heap.size+1+1+1) (dd L m P T s (i+1)) (X.st ((w.heap.size+1+1+1)) (ra*4+2) (J (if bk<rb then rb else bk)))):=fun X hZ=>dN X (if un<f+pr then f+pr else un) rfl hZ;clear S cx f7 z1;generalize (if un<f+pr then f+pr else un)=mu at *
   generalize (V.st ((w.heap.size+1+1+1)) (ra*4+1) (J mu)).drew=X at *
   obtain⟨-,-,w2,-⟩:=HZ.cells M;have w2:=w2.t fW;have z2:=zr.frozen HZ (ra*4+2);have zz:=HZ.lt;go_wp2;refine rg 10 (fun w'=>w'.c ((w.heap.size+1+1+1)) (ra*4+2)=Y bk/\w'.c gz 1=Y rb) ⟨w2,ii⟩ fun S=>?_;refine aq 0 ?_;refine aq 2 ?_;refine aq 4 ?_;refine aq 6 ?_;refine aq 8 ?_;refine uo 10 fun K p=>?_;go_simp;refine bq p.o (.inl rfl) ?_;clear p K;refine rd ?_;clear S w2 z2 zz;have Q:Hid (cy L.b.length (w.heap.size+1+1+1) (dd L m P T s (i+1)) ((X.st ((w.heap.size+1+1+1)) (ra*4+2) (J (if bk<rb then rb else bk))).drew)):=(show cy _ _ _ (X.setCell _ _) from dE X HZ);have gj:Hid (zr ((X.st ((w.heap.size+1+1+1)) (ra*4+2) (J (if bk<rb then rb else bk))).drew) (wo.heap.size+1) 279 4 (ke ⟨o,xa,xb,ya,yb,ar,sp,pl,nn⟩)):=A6 ij HZ _ _;have gh:Hid (Below (w.heap.size+1+1+1) (((w.alloc (lC L a0 (some (E b c)) z D n v)).alloc (tO m)).alloc (.cells #[J P,.slice (some (E tb to)) T.length tc] 110)) ((X.st ((w.heap.size+1+1+1)) (ra*4+2) (J (if bk<rb then rb else bk))).drew)):=(ig.setCell (Qc _) _).t (Qm _ _ 1);generalize (if bk<rb then rb else bk)=mb at *
   go_wp2;go_roundw
   case rel=>exact⟨i+1,oM,nQ,gj,Q,gh⟩
   simp [intOf];omega
  have e:i=O.length:=oM
  have io:¬(i:Int)<(O.length:Int):=oM
  have Q:Hid (cy L.b.length (w.heap.size+1+1+1) (dd L m P T (s+1) 0) wr):=by rw [<-cu,<-e];exact d
  clear e gI d l C;go_wp2;go_roundw
  case rel=>exact⟨s+1,oM,nQ,Q,F⟩
  simp [intOf];omega
 have e:s=L.b.length:=oM
 have iF:¬(s:Int)<(L.b.length:Int):=oM
 have fj:Hid (cy L.b.length (w.heap.size+1+1+1) (mt L m P T 0) wr):=by have h:=B;rw [e,Ls] at h;exact h
 clear e B;rename wO=>wb;go_wp2;clear l0 l1 l2 U t1 t2 t3 t4 t5 t6 y0 y1;go_loopw [113] (fun A wr=>∃q:Nat,q<=L.o.length/\A=J q/\cy L.b.length (w.heap.size+1+1+1) (mt L m P T q) wr/\Below (w.heap.size+1+1+1) (((w.alloc (lC L a0 (some (E b c)) z D n v)).alloc (tO m)).alloc (.cells #[J P,.slice (some (E tb to)) T.length tc] 110)) wr) (fun A _=>L.o.length - (intOf A).toNat)
 case atStart=>exact⟨0,Ql _,rfl,fj,F⟩
 clear fj F H N hz;obtain⟨q,hq,rfl,d,l⟩:=hrel;have B:=Z d;have F:=Z l;obtain⟨-,-,-,hz,C⟩:=Z3 l;have N:=d.lt;by_cases hql:q<L.o.length
 ·have eF:(q:Int)<(L.o.length:Int):=oM
  obtain⟨ob,oo,rfl,ey,fJ⟩:=dK oM;have c0:=(ze C ob (oo+q) ey).t (fJ q hql);have fI:ob<wr.heap.size:=oM
  obtain⟨r1,r2⟩:=XH HM hql;obtain⟨at',bj⟩:=QX r1;have ag:at'<L.b.length:=oM
  have Q:=Z (d.told ag bj);obtain⟨-,-,-,v3⟩:=d.cells ag;have z3:=zr.frozen d (at'*4+3);rw [bj] at c0;have il:(at':Int)<(L.b.length:Int):=oM
  generalize (mt L m P T q).ou at'=e3 at *
  clear d l C fJ r1 r2 bj;go_wp2;go_roundw
  case rel=>exact⟨q+1,oM,nQ,Q,F.setCell (Qc _) _⟩
  simp [intOf];omega
 have e:q=L.o.length:=oM
 have eF:¬(q:Int)<(L.o.length:Int):=oM
 have HP:Hid (A7 L m P T w (.returned (.slice (some (E ((w.heap.size+1+1+1)) 0)) L.b.length L.b.length)) wr):=⟨(w.heap.size+1+1+1),rfl,by rw [e,Lt] at d;exact d,oM,C⟩;clear d l C e;go_wp2;go_ret;exact HP
def pL (L:Lp) (t:Tg) (P:Int) (T:Li) (w:wO) (e:Ending) (w':wO):Prop:=Bw w w'/\∃da dl dc c,e=.returned (.tuple #[.slice da dl dc,J c])/\(zZ L t P T=false->c=2/\dl=0) /\
    (zZ L t P T->(c=1/\dl=0/\Xd L t P T none)\/(c=0/\∃D,zM w' (.slice da dl dc) D/\Xd L t P T (some D)))
def lg (Q:Nat->Int) (T:Li) (P R:Int) (k:Nat):Li:=(List.range k).map fun s=>(Q s - ak T s / P) % R
theorem A8 (Q:Nat->Int) (T:Li) (P R:Int) (k:Nat):(lg Q T P R k).length=k:=by unfold lg;simp
def LB {Q:Nat->Int} {R:Int} {k:Nat} (h:s<k):ak (lg Q T P R k) s=(Q s - ak T s / P) % R:=Ze h
def LC (Q:Nat->Int) (T:Li) (P R:Int) (k:Nat):(lg Q T P R k).map (Value.int .i64)++[J ((Q k - ak T k / P) % R)]=(lg Q T P R (k+1)).map (Value.int .i64):=by simp [lg,Wn]
def LD (w:wO) (x:vO) (t:TypeId) (g:Nat) (a:w.heap.size=g):∀(j:Nat) (u:vO),[x][j]?=some u->(w.alloc (.cells #[x] t)).cell? (((E g 0):Addr).add j)=some u:=by
 intro j u c;subst a;have b:((E w.z 0):Addr).add j=(E w.z j):=by simp [Addr.add];lia
 simp_all
set_option maxRecDepth 100000 in
def LE (hS:tL) (p p1 p2 r g n:Int) (R:Nat) (L:Lp) (a0 x:Option Addr) (b f y t v:Nat) (P:Int) (T:Li) (tb to tc:Nat) (w:wO) (hL:zI w ((lv L a0 (some (E b f)) x y t v)) L) (hP:Xs w (.agg #[J P,.slice (some (E tb to)) T.length tc]) P T) (M:zZ L ⟨p,p1,p2,r,g,n,R⟩ P T) (af:b<w.heap.size) (gQ:∀i,i<L.b.length->∀j,j<9->w.cell? (E b (f+i*9+j))=(zG (zc L.b i))[j]?) (fG:L.b.length<=t) (fH:t<=9223372036854775807)
  (bS:tb<w.heap.size) (aa:∀i,i<T.length->w.cell? (E tb (to+i))=Y (ak T i)) (cW:T.length<=tc) (fR:tc<=9223372036854775807)
  (aF:0<L.o.length->∃ob oo,x=some (E ob oo)/\ob<w.heap.size/\∀i,i<L.o.length->w.cell? (E ob (oo+i))=Y (ak L.o i)) (cS:L.o.length<=v) (fL:v<=9223372036854775807) :
  Cp 95 #[(lv L a0 (some (E b f)) x y t v),(tv p p1 p2 r g n R),.agg #[J P,.slice (some (E tb to)) T.length tc]] w fun e w'=>pL L ⟨p,p1,p2,r,g,n,R⟩ P T w e w':=by
 obtain⟨hm,cM,fM,eA,cU,-,-⟩:=yw M;obtain⟨-,dR,dn,-⟩:=zy hm;have hR:1<=R/\R<=128:=by obtain⟨-,-,-,h4,h5⟩:=yi cM;grind
 obtain⟨ft,fu⟩:=hR;obtain⟨j0,ji,jz0,jz1,jz2⟩:=info_parts Tryz.j3;have X:=Z (QJ w (lC L a0 (some (E b f)) x y t v) (tO ⟨p,p1,p2,r,g,n,R⟩) (.cells #[J P,.slice (some (E tb to)) T.length tc] 110));have HS:Hid ((((w.alloc (lC L a0 (some (E b f)) x y t v)).alloc (tO ⟨p,p1,p2,r,g,n,R⟩)).alloc (.cells #[J P,.slice (some (E tb to)) T.length tc] 110)).heap.size=w.heap.size+1+1+1):=by show _=_;simp
 have df:=Z ((hS ((lv L a0 (some (E b f)) x y t v)) (.agg #[J P,.slice (some (E tb to)) T.length tc]) ⟨p,p1,p2,r,g,n,R⟩ L P T (((w.alloc (lC L a0 (some (E b f)) x y t v)).alloc (tO ⟨p,p1,p2,r,g,n,R⟩)).alloc (.cells #[J P,.slice (some (E tb to)) T.length tc] 110)) (hL.gE X) (hP.gE X) M).m (R':=fun e w'=>e=.returned (.bool true)/\Below (w.heap.size+1+1+1) _ w') fun e w' h=>⟨h.1,h.2.m (qQ HS.s)⟩);have eZ:=Z (fun W (z:Bw w W)=>LA ⟨p,p1,p2,r,g,n,R⟩ L a0 x b f y t v P T tb to tc W M (Qu af z.size) (fun i hi j hj=>(ze z _ _ af).t (gQ i hi j hj)) fG fH (Qu bS z.size) (fun i hi=>(ze z _ _ bS).t (aa i hi)) cW fR (fun h=>by obtain⟨ob,oo,e,h1,h2⟩:=aF h;exact⟨ob,oo,e,Qu h1 z.size,fun i hi=>(ze z _ _ h1).t (h2 i hi)⟩) cS fL);have fh:=Z (fun W lb (h:cy L.b.length lb (Uc L ⟨p,p1,p2,r,g,n,R⟩ P T) W)=>KZ L.b.length R lb (Uc L ⟨p,p1,p2,r,g,n,R⟩ P T) P W h (Lv M) dR dn ft fu fM eA);have eS:=Z (fun W rb cb base B (h:Zi ⟨L.b.length,R,base,rb,cb⟩ base B W) (hs:nK L.b.length R B) (hz:base<=W.heap.size)=>Ln ⟨L.b.length,R,base,rb,cb⟩ W h hs hz dR dn ft fu);have aP:Hid (∀w',Bw w w'->Xd L ⟨p,p1,p2,r,g,n,R⟩ P T none->pL L ⟨p,p1,p2,r,g,n,R⟩ P T w (.returned (.tuple #[.slice none 0 0,J 1])) w'):=fun w' h hr=>⟨h,none,0,0,1,rfl,fun h=>(by grind),fun _=>.inl ⟨rfl,rfl,hr⟩⟩;have ac:Hid (∀w' da dc D,Bw w w'->zM w' (.slice da L.b.length dc) D->Xd L ⟨p,p1,p2,r,g,n,R⟩ P T (some D)->pL L ⟨p,p1,p2,r,g,n,R⟩ P T w (.returned (.tuple #[.slice da L.b.length dc,J 0])) w'):=fun w' da dc D h h1 h4=>⟨h,da,_,dc,0,rfl,fun h=>(by grind),fun _=>.inr ⟨rfl,D,h1,h4⟩⟩;have dM:Hid (∀q,mp L.b.length R (mQ L.b.length R (mj (Uc L ⟨p,p1,p2,r,g,n,R⟩ P T) P R)) q->Xd L ⟨p,p1,p2,r,g,n,R⟩ P T (q.map fun Q=>lg Q T P R L.b.length)):=fun q h=>⟨q,h,rfl⟩;have dj:=Z (fun s (h:s<L.b.length)=>Z4 M h);have bg:=Z cU;have di:=Z aa;clear hL hP M hm cM cU gQ aa aF;go_enter func95,ntmps95;go_wp2_with fail;refine df.mr fun x1 bz=>?_;have aI:=Z bz;have ay:Hid (∀w',Below (w.heap.size+1+1+1) (((w.alloc (lC L a0 (some (E b f)) x y t v)).alloc (tO ⟨p,p1,p2,r,g,n,R⟩)).alloc (.cells #[J P,.slice (some (E tb to)) T.length tc] 110)) w'->w'.c w.heap.size 0=some (.slice a0 L.l.length y)/\w'.c w.heap.size 1=some (.slice (some (E b f)) L.b.length t)/\w'.c w.heap.size 2=some (.slice x L.o.length v)/\w'.c (w.heap.size+1) 0=Y p/\w'.c (w.heap.size+1) 1=Y p1/\w'.c (w.heap.size+1) 2=Y p2/\w'.c (w.heap.size+1) 3=Y r/\w'.c (w.heap.size+1) 4=Y g/\w'.c (w.heap.size+1) 5=Y n/\w'.cell? (E (w.heap.size+1) 6)=Y R/\w'.cell? (E (w.heap.size+1+1) 0)=Y P/\w'.cell? (E (w.heap.size+1+1) 1)=some (.slice (some (E tb to)) T.length tc)):=fun w' h=>by obtain⟨⟨l0,l1,l2⟩,⟨t0,t1,t2,t3,t4,t5,t6⟩,⟨y0,F⟩,-,-⟩:=Z3 h;exact⟨l0,l1,l2,t0,t1,t2,t3,t4,t5,t6,y0,F⟩
 have iJ:w.heap.size+1+1+1<=x1.heap.size:=by have:=bz.size;rw [HS] at this;exact this
 clear bz df;go_wp2;refine rh 99 ay (aI.t (Qm _ _ 1)) fun h9=>?_;refine aq 0 ?_;refine uk 2 ?_;refine uk 4 ?_;refine aq 5 ?_;refine uk 7 ?_;refine uo 3 fun K c=>?_;go_simp;refine (eZ _ ((X.t (aI.m (by omega))).t (Qm _ _ 1))).m ?_;rintro e F ⟨lb,rfl,fs,iw,cH⟩;have cB:Hid (Below (w.heap.size+1+1+1) (((w.alloc (lC L a0 (some (E b f)) x y t v)).alloc (tO ⟨p,p1,p2,r,g,n,R⟩)).alloc (.cells #[J P,.slice (some (E tb to)) T.length tc] 110)) F):=aI.t ((Qm _ x1 1).t (cH.m iJ));have ce:=Z fs;have cF:=ay _ cB;clear fs cH iw;refine bq c.o (.inr cF) ?_;clear c K;refine uo 8 fun K c=>?_;go_simp;refine (fh F lb ce).m ?_;rintro e y2 ⟨rb,cb,rfl,⟨B0,cE,cD⟩,A⟩;have dp:=cE.congr (fun a m d ha hm hd=>KC cD ha hm (by omega));have dS:=AM L.b.length R (mj (Uc L ⟨p,p1,p2,r,g,n,R⟩ P T) P R);obtain⟨B,dT⟩:=nm (mQ L.b.length R (mj (Uc L ⟨p,p1,p2,r,g,n,R⟩ P T) P R));have dp:Zi ⟨L.b.length,R,F.heap.size,rb,cb⟩ F.heap.size B y2:=by rw [<-dT];exact dp
 rw [dT] at dS dM;clear cE cD dT;have cX:w.heap.size+1+1+1<=F.heap.size:=by have:=cB.size;rw [HS] at this;exact this
 have dm:Hid (Below (w.heap.size+1+1+1) (((w.alloc (lC L a0 (some (E b f)) x y t v)).alloc (tO ⟨p,p1,p2,r,g,n,R⟩)).alloc (.cells #[J P,.slice (some (E tb to)) T.length tc] 110)) y2):=cB.t (A.m cX);have aN:=Z (eS y2 rb cb F.heap.size B dp (dS.sym (by omega)) A.size);have O:=ay _ dm;clear dp dS A;refine bq c.o (.inr O) ?_;clear c K;refine uo 9 fun K c=>?_;go_simp;refine aN.m ?_;rintro e C ⟨va,ok,rfl,cI,cO,fK⟩;have dI:=Z cO;clear cO;have S:Hid (Below (w.heap.size+1+1+1) (((w.alloc (lC L a0 (some (E b f)) x y t v)).alloc (tO ⟨p,p1,p2,r,g,n,R⟩)).alloc (.cells #[J P,.slice (some (E tb to)) T.length tc] 110)) C):=dm.t (cI.m cX);have cG:=ay _ S;have aQ:=Z fK;clear cI fK aN;refine bq c.o (.inr cG) ?_;clear c K;refine aq 10 ?_;refine aq 12 ?_;refine uk 14 ?_;refine rd ?_;clear h9 cF O cG eZ fh eS ce;have dP:Hid (Bw w C):=X.t (S.m (by omega));cases ok with
 | false =>have HP:=Z (aP C dP (dM none (dI rfl)));go_wp2;go_ret2;exact HP
 | true =>
  obtain⟨pb,Q,rfl,gI,fP,fA⟩:=aQ rfl;have dG:=Z (dM (some Q) fA);clear fA;have gS:=Z gI;have gv:=Z fP;have eD:=gI.lt;clear gI fP aQ aP;obtain⟨⟨l0,l1,l2⟩,-,-,hz,-⟩:=Z3 S;have ab:=Z (VL C 3);have iL:w.heap.size<C.heap.size:=by omega
  have fT:w.heap.size+1<C.heap.size:=by omega
  have iM:w.heap.size+1+1<C.heap.size:=by omega
  go_wp2;clear l0 l1 l2;go_loopw [10,37] (fun ov iv wr=>∃k:Nat,k<=L.b.length/\iv=J k/\∃U V,ov=.slice U k V/\wr.ownsRow C.heap.size 3 1 (.slice U k V) k ((lg Q T P R k).map (Value.int .i64))/\Bw C wr) (fun _ iv _=>L.b.length - (intOf iv).toNat)
  case atStart=>exact⟨0,Ql _,rfl,_,_,rfl,ab,Qd _ _⟩
  clear ab;obtain⟨k,hk,rfl,U,V,rfl,gJ,gH⟩:=hrel;have dL:=Z gJ;have cZ:=Z gH;have ie:Hid (Below (w.heap.size+1+1+1) (((w.alloc (lC L a0 (some (E b f)) x y t v)).alloc (tO ⟨p,p1,p2,r,g,n,R⟩)).alloc (.cells #[J P,.slice (some (E tb to)) T.length tc] 110)) wr):=S.t (gH.m (by omega));have eM:=gH.size;clear gJ gH;by_cases G:k<L.b.length
  ·have ep:(k:Int)<(L.b.length:Int):=(by omega);obtain⟨-,⟨-,-,-,-,-,-,t6⟩,⟨y0,y1'⟩,cY,ae⟩:=Z3 ie;have iZ:w.heap.size<wr.heap.size:=(by omega);have j5:w.heap.size+1<wr.heap.size:=(by omega);have j6:w.heap.size+1+1<wr.heap.size:=(by omega);have bF:tb<wr.heap.size:=(by omega);have iq:(k:Int)<(T.length:Int):=(by have:=bg.o;omega);have cT:=(ze ae tb (to+k) bS).t (di k (by omega));have cQ:=(gS.gE cZ eD).cell G;have eE:pb<wr.heap.size:=(by omega);obtain⟨I,tm2,-⟩:=dj k G;obtain⟨g,n⟩:=gv k G;have fN:Q k<128:=(by omega);have dY:=LC Q T P R k;have eI:0<=ak T k / P:=WY I (by omega);have eJ:ak T k / P<=1000:=WK (Eg _ I) tm2;have iG:(ak T k).tdiv P=ak T k / P:=qw I;obtain⟨dk,ef⟩:=nm ((Q k - ak T k / P) % (R:Int));have HL:=Z (fun W=>VO (Q k - ak T k / P) R dk W (by omega) (by omega) (by omega) (by omega) ef);rw [ef] at dY;have gZ:=Z dY;generalize Q k=H at *
   generalize ak T k=tk at *
   obtain⟨st,fQ⟩:=nm (tk / P);rw [fQ] at iG HL eI eJ;have dC:wrap64 st=st:=(by unfold wrap64;omega);have eK:wrap64 (H - st)=H - st:=(by unfold wrap64;omega);have iU:IntKind.i64.wrap (H - st)=H - st:=xG _ (by omega) (by omega);have iW:IntKind.i64.wrap st=st:=xG _ (by omega) (by omega);have iO:¬P=0:=(by omega);have gu:Hid (∀W,Bw C W->W.cell? (E pb k)=Y H):=fun W z=>by rw [ze z _ _ eD,<-ze cZ _ _ eD];exact cQ
   clear dY fQ ef ae;have bf:Hid (∀W,Bw wr W->W.cell? (E (w.heap.size+1) 6)=Y R/\W.cell? (E pb k)=Y H):=fun W z=>⟨by rw [ze z _ _ (by omega)];exact t6,by rw [ze z _ _ eE];exact cQ⟩;go_wp2;go_big_quiet ((fail));go_wp2;have dg:Hid (Bw wr (wr.drewN nq)):=Qm _ _ _;generalize hyy:wr.drewN nq=yq at *
   refine rh 99 bf (dg.t (Qm _ _ 1)) fun h9=>?_;refine aq 0 ?_;refine aq 2 ?_;refine aq 4 ?_;refine aq 6 ?_;refine uk 8 ?_;refine uo 9 fun K c=>?_;go_simp;refine (HL _).m ?_;rintro e x2 ⟨rfl,rfl⟩;refine bq c.o (.inr h9) ?_;clear c K;have N:Hid (Bw wr (yq.drew.alloc (.cells #[J dk] 3))):=(dg.t (Qm _ _ 1)).t ((Qd yq.drew _).m (dg.t (Qm _ _ 1)).size);have O:=bf _ N;refine uo 10 fun K c=>?_;go_simp;refine bq c.o (.inr O) ?_;clear c K;refine uo 11 fun K c=>?_;refine step_append_lies _ (by rfl) (.tmp 48) (.tmp 58) 34 (by rfl) C.heap.size 3 j0 (J 0) 1 8 underlying34 ji jz0 jz1 jz2 rfl (by decide) _ k _ (by rfl) (zp dL N) (E yq.drew.heap.size 0) 1 1 [J dk] (by rfl) rfl (LD _ _ _ _ rfl) (by intro u hu;simp at hu;subst hu;rfl) (by decide) (by unfold maxLen;omega) (by omega) (QH eM N.size) _ rfl ?_;intro g2 e2 w2 gP gN bj hlt;rw [gZ] at gP;have dJ:=Z gP;have bI:=Z (((cZ.t (N.m eM))).grown gN (QH eM N.size) (zR dL));have fq:w2.cell? (E (w.heap.size+1) 6)=Y R/\w2.c pb k=Y H:=(by have hY:=S.t (bI.m (by omega));obtain⟨-,⟨-,-,-,-,-,-,u6⟩,-,-,-⟩:=Z3 hY;exact⟨u6,gu w2 bI⟩);clear gP gN bj hlt;refine bq c.o (.inr fq) ?_;clear c K;refine uk 12 ?_;refine rd ?_;clear h9 O fq bf N dg;go_wp2;go_roundw
   case rel=>exact⟨k+1,by omega,by go_num,_,_,rfl,dJ,bI⟩
   simp [intOf];omega
  have e:k=L.b.length:=by omega
  have ep:¬(k:Int)<(L.b.length:Int):=by omega
  have HP:Hid (pL L ⟨p,p1,p2,r,g,n,R⟩ P T w (.returned (.tuple #[.slice U k V,J 0])) wr):=by have h:=dL;subst e;refine ac wr U V _ (dP.tm cZ) ?_ dG;have h2:=Mv (zs:=lg Q T P R L.b.length) (by rw [A8];exact h) (fun i hi=>by rw [A8] at hi;rw [LB hi];have h1:=QS (Q i - ak T i / P) (show (R:Int)≠0 by omega);have h2:=QP (Q i - ak T i / P) (show 0<(R:Int) by omega);omega);exact h2
  clear e;go_wp2;go_ret2;exact HP
end
end Go.Proofs.YtjlfcbccpcigeacGreatDoor
