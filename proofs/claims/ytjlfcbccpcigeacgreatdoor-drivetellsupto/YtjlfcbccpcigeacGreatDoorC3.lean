import Derived.Test.YtjlfcbccpcigeacGreatDoorC2
set_option maxHeartbeats 40000000
set_option linter.defProp false
namespace Go.Proofs.YtjlfcbccpcigeacGreatDoor
open Go.Proofs.Tryz Go.RowKit Go.Joins
set_option linter.unusedVariables false
set_option linter.unusedSimpArgs false
set_option maxRecDepth 8192
section
variable {Ev:Nat->Nat->Int->Prop} {a q fd fw m d lb g r:Nat} {p tn:Int} {lf:Bool} {f:Nat->vO}
section
structure Lf where
 rd:Nat->Int
 un:Nat->Int
 bk:Nat->Int
 ou:Nat->Bool
def sS (l:Lf) (P:Int) (a m:Nat):Int:=if m=a then 1 else -((l.rd m - l.rd a) / P)
def Ua (l:Lf) (P:Int) (a m:Nat):Int:=if 0<l.bk a then min (sS l P a m) 1 else sS l P a m
def ld (l:Lf) (P:Int) (a m:Nat):Int:=if l.ou a=true then max ((l.un a - l.rd m) / P) 0 else (l.un a - l.rd m) / P
def Kw (l:Lf) (P R:Int) (a m:Nat) (on:Int):Prop:=Ua l P a m<=on/\on<=ld l P a m/\on<=Ua l P a m+R - 1
def AD (l:Lf) (a m:Nat) (on:Int):Prop:=∃q r:Nat,(q:Int)<l.bk a/\(r:Int)<l.bk m/\(a≠m\/q≠r)/\on=(q:Int) - r
def mj (l:Lf) (P R:Int) (a m:Nat) (on:Int):Prop:=Kw l P R a m on\/AD l a m on
def mn (n:Nat) (R:Int) (Ev:Nat->Nat->Int->Prop) (B:Nat->Nat->Nat->Bool):Prop :=
 ∀a m,a<n->m<n->∀d:Nat,(d:Int)<R->(B a m d=true↔∃on,(Ev a m on/\on % R=d)\/(Ev m a on/\(-on) % R=d))
def j2 (u:List (Int × Int)) (a P tm:Int) (f:Int):Nat->Int
 | 0=>f
 | k+1=>if (zO u k).1=a/\j2 u a P tm f k<tm+(zO u k).2*P then tm+(zO u k).2*P else j2 u a P tm f k
def kH (L:Lp) (t:Tg) (P:Int) (T:Li) (a:Nat):Nat->Int
 | 0=>ak T a+yj t (zc L.b a).o - 1
 | k+1=>j2 (zu (zc L.b k)) a P (ak T k) (kH L t P T a k) (zu (zc L.b k)).length
def nJ (outs:Li) (a:Nat):Nat->Bool
 | 0=>false
 | k+1=>nJ outs a k || decide (ak outs k=(a:Int))
def Uc (L:Lp) (t:Tg) (P:Int) (T:Li):Lf :=
 ⟨fun a=>ak T a+yj t (zc L.b a).o,fun a=>kH L t P T a L.b.length,fun a=>lw L a,fun a=>nJ L.o a L.o.length⟩
def AE (u:List (Int × Int)) (a P tm f:Int):∀k,f<=j2 u a P tm f k:=by
 intro k;induction k with
 | zero=>exact QR _
 | succ k ih =>rw [j2];split <;> lia
def lM (u:List (Int × Int)) (a P tm f c:Int) (b:f<=c) (d:∀i,i<u.length->(zO u i).1=a->tm+(zO u i).2*P<=c):∀k,k<=u.length->j2 u a P tm f k<=c:=by intro k;induction k <;> grind [j2]
def AG (L:Lp) (t:Tg) (P:Int) (T:Li) (a:Nat):∀k,ak T a+yj t (zc L.b a).o - 1<=kH L t P T a k:=by
 intro k;induction k with
 | zero=>exact QR _
 | succ k ih=>exact WK ih (AE _ _ _ _ _ _)
def AH (L:Lp) (t:Tg) (P:Int) (T:Li) (a:Nat) (c:Int) (h0:ak T a+yj t (zc L.b a).o - 1<=c) (n:Nat) (d:∀s,s<n->∀i,i<(zu (zc L.b s)).length->(zO (zu (zc L.b s)) i).1=(a:Int)->ak T s+(zO (zu (zc L.b s)) i).2*P<=c):∀k,k<=n->kH L t P T a k<=c:=by
 intro k;induction k with
 | zero=>intro _;exact h0
 | succ k ih =>intro h;exact lM _ _ _ _ _ c (ih lI) (d k lI) _ (Qc _)
section
variable {L:Lp} {t:Tg} {P:Int} {T D:Li}
end
end
section
def j4 (n:Nat) (R:Int) (B:Nat->Nat->Nat->Bool) (I:Nat->Bool) (Q:Nat->Int) (a:Nat) (p:Int):Nat:=cnt (fun m=>I m && B a m ((p - Q m) % R).toNat) n
def jm (R:Int) (B:Nat->Nat->Nat->Bool) (C:Nat->Nat->Int) (m:Nat) (q by':Int):Nat->Nat->Int:=fun a p=>if B a m (((p:Int) - q) % R).toNat=true then C a p+by' else C a p
structure jt (n:Nat) (R:Int) (B:Nat->Nat->Nat->Bool) (I:Nat->Bool) (Q:Nat->Int) (C:Nat->Nat->Int) (k:Int):Prop where
 cnt:∀a,a<n->∀p:Nat,(p:Int)<R->C a p=(j4 n R B I Q a p:Int)
 pr:∀m,m<n->0<=Q m/\Q m<R
 ok:∀a m,a<n->m<n->a≠m->I a->I m->B a m ((Q a - Q m) % R).toNat=false
 k0:0<=k
 k1:k<=1000
def nK (n:Nat) (R:Int) (B:Nat->Nat->Nat->Bool):Prop:=∀a m,a<n->m<n->∀e:Int,B a m (e % R).toNat->B m a ((-e) % R).toNat
theorem Kx {e R:Int}:(-(e % R)) % R=(-e) % R:=by rw [qD,qD (a:=e)];exact Int.sub_emod_emod ..
def mn.sym {n:Nat} {R:Int} {B:Nat->Nat->Nat->Bool} (hR:1<=R) (h:mn n R Ev B):nK n R B:=by
 intro a m b hm e hb;have d:=QS e (show R≠0 by lia);have f:=QP e (show 0<R by lia);have g:=QS (-e) (show R≠0 by lia);have i:=QP (-e) (show 0<R by lia);obtain⟨on,c⟩:=(h a m b hm _ (by lia)).1 hb;refine (h m a hm b _ (by lia)).2 ⟨on,?_⟩;grind [Kx]
def Ky {n:Nat} {R:Int} {B:Nat->Nat->Nat->Bool} {I:Nat->Bool} {Q:Nat->Int}:j4 n R B I Q a p<=n:=U5 _ _
theorem AI {n:Nat} {R:Int} {B:Nat->Nat->Nat->Bool} {I:Nat->Bool} {Q:Nat->Int} (h:j4 n R B I Q a p=0):∀m,m<n->I m->B a m ((p - Q m) % R).toNat=false:=by
 intro m hm hi;have h1:cnt (fun j=>(fun m=>I m && B a m ((p - Q m) % R).toNat) j && decide (j=m)) n<=j4 n R B I Q a p:=ti fun i _ hi=>rQ
 refine Bool.eq_false_iff.2 fun hb=>?_;have c:=U6 (p:=fun _=>false) (q:=fun j=>(fun m=>I m && B a m ((p - Q m) % R).toNat) j && decide (j=m)) (a:=m) n (fun i _ b=>by simp [b]);simp_all
def Kz {n:Nat} {R:Int} {B:Nat->Nat->Nat->Bool} {I:Nat->Bool} {Q:Nat->Int} (h:∀m,m<n->I m->B a m ((p - Q m) % R).toNat=false):j4 n R B I Q a p=0:=by grind [j4,Yd]
variable {n:Nat} {R:Int} {B:Nat->Nat->Nat->Bool} {I:Nat->Bool} {Q:Nat->Int} {C:Nat->Nat->Int} {k:Int}
def jt.range (h:jt n R B I Q C k) (hn:n<=16) (b:a<n) {p:Nat} (c:(p:Int)<R):0<=C a p/\C a p<=16:=by rw [h.cnt a b p c];have:=Ky (n:=n) (R:=R) (B:=B) (I:=I) (Q:=Q) (a:=a) (p:=(p:Int));lia
theorem jt.start (hR:1<=R):jt n R B (fun _=>false) (fun _=>0) (fun _ _=>0) 0 where
 cnt:=fun a b p c=>by simp [Kz]
 pr:=fun m _=>⟨QR _,lI⟩
 ok:=fun a m _ _ _ h=>by cases h
 k0:=tQ
 k1:=tQ
def jt.put (h:jt n R B I Q C k) (hs:nK n R B) (g:a<n) (r:I a=false) {p:Nat} (s:(p:Int)<R) (v:C a p=0) (y:k<1000):jt n R B (bX I a true) (b9 Q a p) (jm R B C a p 1) (k+1) where
 cnt:=fun b hb x t=>by
  have h1:=U6 (p:=fun m=>I m && B b m (((x:Int) - Q m) % R).toNat) (q:=fun m=>bX I a true m && B b m (((x:Int) - b9 Q a p m) % R).toNat) (a:=a) n (fun i _ hi=>by grind [bX,b9])
  simp only [g,r,bX,b9,if_true,WI,Wb,true_and,Ei,if_false,WG,and_false] at h1
  have d:=h.cnt b hb x t
  unfold jm
  show _=((j4 n R B (bX I a true) (b9 Q a p) b x:Nat):Int)
  have f:j4 n R B (bX I a true) (b9 Q a p) b x=j4 n R B I Q b x+if B b a (((x:Int) - p) % R).toNat=true then 1 else 0:=h1
  grind
 pr:=fun m hm=>by
  have:=h.pr m hm
  grind [b9]
 ok:=fun b m hb hm l h1 d=>by
  have u:j4 n R B I Q a p=0:=by have:=h.cnt a g p s;lia
  unfold bX at h1 d
  unfold b9
  by_cases j:b=a
  ·grind [AI]
  ·rw [Qe j] at h1
   rw [Qe j]
   by_cases c:m=a
   ·rw [Qf c,c]
    refine Bool.eq_false_iff.2 fun o=>?_
    have f:=hs b a hb g _ o
    rw [show -(Q b - (p:Int))=p - Q b by lia] at f
    rw [AI u b hb h1] at f
    cases f
   ·rw [Qe c] at d
    rw [Qe c]
    exact h.ok b m hb hm l h1 d
 k0:=by have:=h.k0;lia
 k1:=lI
theorem jt.o (h:jt n R B I Q C k) (j:a<n) (g:I a):jt n R B (bX I a false) Q (jm R B C a (Q a) (-1)) k where
 cnt:=fun b hb x l=>by
  have h1:=U6 (p:=fun m=>I m && B b m (((x:Int) - Q m) % R).toNat) (q:=fun m=>bX I a false m && B b m (((x:Int) - Q m) % R).toNat) (a:=a) n (fun i _ hi=>by simp [bX,hi])
  simp only [j,g,bX,if_true,WI,Wb,true_and,Ei,if_false,WG,and_false] at h1
  have c:=h.cnt b hb x l
  grind [jm,j4,bX]
 pr:=h.pr
 ok:=fun b m hb hm f h1 c=>by
  have d:∀i,bX I a false i->I i:=fun i hi=>by
   grind [bX]
  exact h.ok b m hb hm f (d _ h1) (d _ c)
 k0:=h.k0
 k1:=h.k1
def KA (c:I a=false) (b:Bool):bX (bX I a true) a false=I:=by grind [bX]
def KB (c:a<n) (b:I a=false):cnt I n+1<=n:=by have h:=sG c b;have:=U5 (bX I a true) n;lia
end
def Ur (C:Nat->Nat->Int) (a:Nat):Nat->Nat
 | 0=>0
 | p+1=>if C a p=0 then Ur C a p+1 else Ur C a p
def XS (R:Nat) (C:Nat->Nat->Int) (I:Nat->Bool):Nat->Nat × Nat × Bool
 | 0=>(0,0,false)
 | q+1=>if I q=false/\((XS R C I q).2.2=false\/Ur C q R<(XS R C I q).2.1) then (q,Ur C q R,true) else XS R C I q
def AK {R:Nat} {C:Nat->Nat->Int} {I:Nat->Bool} (h:XS R C I q=(fd,fw,lf)) (h1:I q\/(lf/\¬Ur C q R<fw)):XS R C I (q+1)=(fd,fw,lf):=by grind [XS]
def AL {R:Nat} {C:Nat->Nat->Int} {I:Nat->Bool} (h:XS R C I q=(fd,fw,lf)) (h1:I q=false) (a:lf=false\/Ur C q R<fw):XS R C I (q+1)=(q,Ur C q R,true):=by grind [XS]
abbrev sT:=Bool × (Nat->Bool) × (Nat->Int) × (Nat->Nat->Int) × Int
inductive ZT (n R:Nat) (B:Nat->Nat->Nat->Bool):Option (Nat × Nat)->(Nat->Bool)->(Nat->Int)->(Nat->Nat->Int)->Int->sT->Prop
 | full (I Q C k) (h:(XS R C I n).2.2=false):ZT n R B none I Q C k (true,I,Q,C,k)
 | go (I Q C k a fw r) (h:XS R C I n=(a,fw,true)) (hr:ZT n R B (some (a,0)) I Q C k r):ZT n R B none I Q C k r
 | last (I Q C k a p) (h:¬p<R):ZT n R B (some (a,p)) I Q C k (false,I,Q,C,k)
 | skip (I Q C k a p r) (h:p<R) (h1:0<C a p) (hr:ZT n R B (some (a,p+1)) I Q C k r):ZT n R B (some (a,p)) I Q C k r
 | stop (I Q C k a p) (h:p<R) (h1:¬0<C a p) (h2:k=1000):ZT n R B (some (a,p)) I Q C k (false,I,Q,C,k)
 | found (I Q C k a p s) (h:p<R) (h1:¬0<C a p) (h2:k≠1000) (hr:ZT n R B none (bX I a true) (b9 Q a p) (jm R B C a p 1) (k+1) (true,s)):ZT n R B (some (a,p)) I Q C k (true,s)
 | back (I Q C k a p I3 Q3 C3 k3 r) (h:p<R) (h1:¬0<C a p) (h2:k≠1000) (hr:ZT n R B none (bX I a true) (b9 Q a p) (jm R B C a p 1) (k+1) (false,I3,Q3,C3,k3)) (az:ZT n R B (some (a,p+1)) (bX I3 a false) Q3 (jm R B C3 a (Q3 a) (-1)) k3 r):ZT n R B (some (a,p)) I Q C k r
def ZT.unique {n R:Nat} {B:Nat->Nat->Nat->Bool} {m:Option (Nat × Nat)} {I:Nat->Bool} {Q:Nat->Int} {C:Nat->Nat->Int} {k:Int} {r j:sT} (h:ZT n R B m I Q C k r):ZT n R B m I Q C k j->r=j:=by
 induction h generalizing j with
 | full I Q C k h =>
  intro b;cases b with
  | full=>rfl
  | go _ _ _ _ a fw r c hr=>rw [c] at h;cases h
 | go I Q C k a fw r h hr ih =>
  intro b;cases b with
  | full _ _ _ _ c=>rw [h] at c;cases c
  | go _ _ _ _ a' t r c f =>rw [h] at c;injection c with e1 _;subst e1;exact ih f
 | last I Q C k a p h =>intro b;cases b <;> first | rfl | (exfalso;lia)
 | skip I Q C k a p r h h1 hr ih =>
  intro b;cases b with
  | last=>exfalso;lia
  | skip _ _ _ _ _ _ _ _ _ f=>exact ih f
  | stop=>exfalso;lia
  | found=>exfalso;lia
  | back=>exfalso;lia
 | stop I Q C k a p h h1 c =>intro b;cases b <;> first | rfl | (exfalso;lia)
 | found I Q C k a p s h h1 c hr ih =>
  intro b;cases b with
  | last=>exfalso;lia
  | skip=>exfalso;lia
  | stop=>exfalso;lia
  | found _ _ _ _ _ _ v _ _ _ f=>exact ih f
  | back _ _ _ _ _ _ o q l u r _ _ _ f d=>have:=ih f;cases this
 | back I Q C k a p o q l u r h h1 c hr f ih i =>
  intro b;cases b with
  | last=>exfalso;lia
  | skip=>exfalso;lia
  | stop=>exfalso;lia
  | found _ _ _ _ _ _ v _ _ _ d=>have:=ih d;cases this
  | back _ _ _ _ _ _ y z x A r _ _ _ d g =>have e:=ih d;injection e with _ e;injection e with e1 e;injection e with e2 e;injection e with e3 e4;subst e1;subst e2;subst e3;subst e4;exact i g
def mp (n R:Nat) (B:Nat->Nat->Nat->Bool) (r:Option (Nat->Int)):Prop :=
 ((∃a,a<n/\B a a 0)/\r=none)\/((∀a,a<n->B a a 0=false)/\∃b I Q C k,ZT n R B none (bX (fun _=>false) 0 true) (b9 (fun _=>0) 0 ((0:Nat):Int)) (jm R B (fun _ _=>0) 0 ((0:Nat):Int) 1) (0+1) (b,I,Q,C,k)/\r=if b=true then some Q else none)
def mp.unique {n R:Nat} {B:Nat->Nat->Nat->Bool} {r i:Option (Nat->Int)} (h:mp n R B r) (l:mp n R B i):r=i:=by
 rcases h with ⟨⟨a,h1,f⟩,g⟩ | ⟨h1,b,I,Q,C,k,f,g⟩ <;> rcases l with ⟨⟨a',j,c⟩,d⟩ | ⟨j,b',o,p,m,q,c,d⟩
 ·rw [g,d]
 ·simp_all
 ·simp_all
 have e:=f.unique c;simp_all
noncomputable def mQ (n:Nat) (R:Int) (Ev:Nat->Nat->Int->Prop):Nat->Nat->Nat->Bool:=fun a m d=>@decide (∃on,(Ev a m on/\on % R=d)\/(Ev m a on/\(-on) % R=d)) (Classical.propDecidable _)
theorem AM (n:Nat) (R:Int) (Ev:Nat->Nat->Int->Prop):mn n R Ev (mQ n R Ev):=by simp [mn,mQ]
def KC {n:Nat} {R:Int} {B:Nat->Nat->Nat->Bool} (h:mn n R Ev B) (b:a<n) (hm:m<n) (c:(d:Int)<R):B a m d=mQ n R Ev a m d:=by grind [mn,AM]
def Xd (L:Lp) (t:Tg) (P:Int) (T:Li) (r:Option Li):Prop :=
 ∃q,mp L.b.length t.r.toNat (mQ L.b.length t.r (mj (Uc L t P T) P t.r)) q/\r=q.map fun Q=>(List.range L.b.length).map fun s=>(Q s - ak T s / P) % t.r
def Xd.unique {L:Lp} {t:Tg} {P:Int} {T:Li} {r a:Option Li} (h:Xd L t P T r) (d:Xd L t P T a):r=a:=by obtain⟨q,h1,f⟩:=h;obtain⟨g,b,c⟩:=d;rw [f,c,h1.unique b]
def Xd.dests {L:Lp} {t:Tg} {P:Int} {T D:Li} (c:zZ L t P T) (h:Xd L t P T (some D)):ZN L t D:=by
 obtain⟨-,d,-⟩:=yw c;obtain⟨-,-,-,f,g⟩:=yi d;obtain⟨q,h1,a⟩:=h;cases q with
 | none=>cases a
 | some Q =>have e:D=(List.range L.b.length).map fun s=>(Q s - ak T s / P) % t.r:=QD a;unfold ZN;rw [e,Q9,List.length_range,Qi rfl,Wb];refine yk fun s hs=>?_;rw [Ze hs];have h1:=QS (Q s - ak T s / P) (show t.r≠0 by lia);have a:=QP (Q s - ak T s / P) (show 0<t.r by lia);exact yh ⟨h1,lI⟩
section
def KD {n d:Int} (a:0<d):(n.tmod d+d).tmod d=n % d:=by have h1:=EV n a;rw [Wo lI];have b:=E4 n d;rw [show n.tmod d+d=n+d*(1 - n.tdiv d) by grind,Eh]
def KE {n d:Int} (b:0<d):(n - n % d).tdiv d=n / d:=by have a:=E5 n d;rw [show n - n % d=d*(n / d) by lia,Int.mul_tdiv_cancel_left _ lI]
def VO (n d r:Int) (w:wO) (q:1<=d) (m:d<=1000) (hn:-1000000<=n) (l:n<=1000000) (h:n % d=r) :
  Cp 149 #[J n,J d] w (Re w (J r)):=by
 have p:¬d=0:=by omega
 have f:=KD (n:=n) (d:=d) (by omega);rw [h] at f;obtain⟨a,i⟩:=nm (n.tmod d);have b:=WL n (show 0<d by omega);have c:=EV n (show 0<d by omega);rw [i] at f b c;have k:wrap64 a=a:=by unfold wrap64;omega
 have o:wrap64 (a+d)=a+d:=by unfold wrap64;omega
 have j:0<=r/\r<d:=by rw [<-h];exact⟨QS _ (by omega),QP _ (by omega)⟩
 have g:wrap64 r=r:=by grind
 clear b c j h;go_enter func149,ntmps149;go_wp2;go_ret;exact⟨by first | rfl | exact nj g,rfl⟩
def AN (n d r:Int) (w:wO) (i:1<=d) (m:d<=1000) (hn:-1000000<=n) (g:n<=1000000) (h:n / d=r) :
  Cp 241 #[J n,J d] w (Re w (J r)):=by
 have p:¬d=0:=oM
 have j:=KE (n:=n) (d:=d) oM;rw [h] at j;obtain⟨b,a⟩:=nm (n % d);have c:=QS n (show d≠0 by omega);have f:=QP n (show 0<d by omega);have k:=Z (fun W=>VO n d b W i m hn g a);obtain⟨b1,b2,b3,b4⟩:=YP i hn g;rw [a] at j c f;have o:wrap64 (n - b)=n - b:=by unfold wrap64;omega
 have l:wrap64 r=r:=by unfold wrap64;omega
 clear c f h a b1 b2 b3 b4;go_enter func241,ntmps241;go_wp2_with (apply (k _).m;rintro e q ⟨rfl,rfl⟩);go_ret;exact⟨by first | rfl | exact nj l,rfl⟩
def Us (l:Lf) (i:Nat):vO:=if i % 4=0 then J (l.rd (i / 4)) else if i % 4=1 then J (l.un (i / 4)) else if i % 4=2 then J (l.bk (i / 4)) else .bool (l.ou (i / 4))
def cy (n lb:Nat) (l:Lf) (x:wO):Prop:=zr x lb 278 (n*4) (Us l)
def cy.cells {n:Nat} {l:Lf} {x:wO} (h:cy n lb l x) (b:a<n) :
  x.cell? (E lb (a*4))=Y (l.rd a)/\x.cell? (E lb (a*4+1))=Y (l.un a)/\x.cell? (E lb (a*4+2))=Y (l.bk a)/\x.cell? (E lb (a*4+3))=some (.bool (l.ou a)):=by
 refine⟨?_,?_,?_,?_⟩
 ·rw [zr.cell h (show a*4<n*4 by lia)];simp [Us]
 ·rw [zr.cell h (show a*4+1<n*4 by lia)];grind [Us]
 ·rw [zr.cell h (show a*4+2<n*4 by lia)];grind [Us]
 rw [zr.cell h (show a*4+3<n*4 by lia)];grind [Us]
def cy.lt {n:Nat} {l:Lf} {x:wO} (h:cy n lb l x):lb<x.heap.size:=zr.lt h
def cy.gE {n B:Nat} {l:Lf} {x y:wO} (h:cy n lb l x) (hb:Below B x y) (a:lb<B):cy n lb l y:=zr.gE h hb a
structure nL (n:Nat) (l:Lf):Prop where
 rd:∀a,a<n->1<=l.rd a/\l.rd a<=1006
 un:∀a,a<n->0<=l.un a/\l.un a<=1606
 bk:∀a,a<n->0<=l.bk a/\l.bk a<=3
structure Bc where
 n:Nat
 R:Nat
 ob:Nat
 rb:Nat->Nat
 cb:Nat->Nat->Nat
structure Zi (c:Bc) (base:Nat) (B:Nat->Nat->Nat->Bool) (x:wO):Prop where
 o:zr x c.ob 322 c.n (fun a=>.slice (pA (c.rb a)) c.n c.n)
 r:∀a,a<c.n->zr x (c.rb a) 261 c.n (fun m=>.slice (pA (c.cb a m)) c.R c.R)
 cc:∀a m,a<c.n->m<c.n->zr x (c.cb a m) 4 c.R (fun d=>.bool (B a m d))
 inj:∀a m a' m',a<c.n->m<c.n->a'<c.n->m'<c.n->c.cb a m=c.cb a' m'->a=a'/\m=m'
 geo:base<=c.ob
 ger:∀a,a<c.n->base<=c.rb a
 gec:∀a m,a<c.n->m<c.n->base<=c.cb a m
variable {c:Bc} {base:Nat} {B:Nat->Nat->Nat->Bool} {x y:wO}
theorem Zi.congr {b:Nat->Nat->Nat->Bool} (h:Zi c base B x) (i:∀a m d,a<c.n->m<c.n->d<c.R->B a m d=b a m d):Zi c base b x:={ h with cc:=fun a m f hm=>(h.cc a m f hm).congr fun d g=>by simp_all}
def AO:(261:TypeId)≠4:=tQ
def AP:(322:TypeId)≠4:=tQ
def Zi.same (h:Zi c base B x) (f:y.heap[c.ob]?=x.heap[c.ob]?) (hr:∀a,a<c.n->y.heap[c.rb a]?=x.heap[c.rb a]?) (d:∀a m,a<c.n->m<c.n->y.heap[c.cb a m]?=x.heap[c.cb a m]?):Zi c base B y :=
 ⟨h.o.gG f,fun a b=>(h.r a b).gG (hr a b),fun a m b hm=>(h.cc a m b hm).gG (d a m b hm),h.inj,h.geo,h.ger,h.gec⟩
def Zi.gE (h:Zi c base B x) (hb:Bw x y):Zi c base B y :=
 h.same (hb.block _ h.o.lt) (fun a b=>hb.block _ (h.r a b).lt) (fun a m b hm=>hb.block _ (h.cc a m b hm).lt)
def Zi.other (h:Zi c base B x) {e:TypeId} {k:Nat} (d:zr x g e k f) (h1:e≠4) (j:e≠261) (l:e≠322) (i:Nat) (v:vO):Zi c base B (x.setCell (E g i) v) :=
 h.same (Qj _ _ _ _ (d.apart h.o l).s) (fun a b=>Qj _ _ _ _ (d.apart (h.r a b) j).s) (fun a m b hm=>Qj _ _ _ _ (d.apart (h.cc a m b hm) h1).s)
def Zi.otherB (h:Zi c base B x) {k:Nat} (d:zr x g 4 k f) (hn:∀a m,a<c.n->m<c.n->g≠c.cb a m) (i:Nat) (v:vO):Zi c base B (x.setCell (E g i) v) :=
 h.same (Qj _ _ _ _ (d.apart h.o AP.s).s) (fun a b=>Qj _ _ _ _ (d.apart (h.r a b) AO.s).s) (fun a m b hm=>Qj _ _ _ _ (hn a m b hm).s)
def nM (B:Nat->Nat->Nat->Bool) (a m d:Nat):Nat->Nat->Nat->Bool:=fun a' m' d'=>if a'=a/\m'=m/\d'=d then true else B a' m' d'
theorem Zi.set (h:Zi c base B x) (f:a<c.n) (hm:m<c.n) (j:d<c.R):Zi c base (nM B a m d) (x.setCell (E (c.cb a m) d) (.bool true)):=by
 refine⟨h.o.gF (h.o.apart (h.cc a m f hm) AP) _,fun b hb=>(h.r b hb).gF ((h.r b hb).apart (h.cc a m f hm) AO) _,fun b q hb g=>?_,h.inj,h.geo,h.ger,h.gec⟩;by_cases e:c.cb b q=c.cb a m
 ·obtain⟨rfl,rfl⟩:=h.inj _ _ _ _ hb g f hm e;refine ((h.cc b q hb g).set d (.bool true) j).congr fun i _=>?_;simp [nM]
 refine ((h.cc b q hb g).gF e _).congr fun i _=>?_;grind [nM]
def xi (c:Bc) (base:Nat) (Ev:Nat->Nat->Int->Prop) (x:wO):Prop:=∃B,Zi c base B x/\mn c.n c.R Ev B
theorem xi.congr {b:Nat->Nat->Int->Prop} (h:xi c base Ev x) (k:∀a m,a<c.n->m<c.n->∀o,Ev a m o↔b a m o):xi c base b x:=by
 obtain⟨B,h1,f⟩:=h;refine⟨B,h1,fun a m g hm d i=>(f a m g hm d i).t ⟨fun ⟨o,j⟩=>⟨o,?_⟩,fun ⟨o,j⟩=>⟨o,?_⟩⟩⟩
 ·simp_all
 simp_all
def xi.gE (h:xi c base Ev x) (hb:Bw x y):xi c base Ev y:=by obtain⟨B,h1,a⟩:=h;exact⟨B,h1.gE hb,a⟩
def lN (Ev:Nat->Nat->Int->Prop) (a m:Nat) (on:Int):Nat->Nat->Int->Prop:=fun a' m' o=>Ev a' m' o\/(a'=a/\m'=m/\o=on)
def xi.bar (h:xi c base Ev x) {d':Nat} {on:Int} (f:a<c.n) (hm:m<c.n) (o:d<c.R) (i:d'<c.R) (h1:on % (c.R:Int)=d) (s:(-on) % (c.R:Int)=d') :
  xi c base (lN Ev a m on) ((x.setCell (E (c.cb a m) d) (.bool true)).setCell (E (c.cb m a) d') (.bool true))/\Below base x ((x.setCell (E (c.cb a m) d) (.bool true)).setCell (E (c.cb m a) d') (.bool true)):=by
 obtain⟨B,g,l⟩:=h;refine⟨⟨_,(g.set f hm o).set hm f i,fun b q hb p z r=>?_⟩,((QA _ _).setCell (g.gec a m f hm) _).setCell (g.gec m a hm f) _⟩;have h0:=l b q hb p z r;unfold nM lN;constructor
 ·intro hB;by_cases j:b=m/\q=a/\z=d'
  ·grind
  rw [Qe j] at hB;by_cases k:b=a/\q=m/\z=d
  ·grind
  rw [Qe k] at hB;grind
 grind
end
def Vf {P:Program} {f:FuncId} {args:Array vO} {w:wO} {k n:Nat} {v:vO} (h:Calls P f args (w.drewN (k+n)) fun e w'=>e=.returned v/\w'=w.drewN (k+n)):Calls P f args (w.drewN (k+n)) fun e a=>e=.returned v/\∃m,a=w.drewN (k+m) :=
 h.m fun _ _ ⟨h1,b⟩=>⟨h1,n,b⟩
def Ve {a b a' b':Int} (h1:a=a') (c:b=b'):Ending.returned (.tuple #[J a,J b])=.returned (.tuple #[J a',J b']):=by rw [h1,c]
def KF (n lb:Nat) (l:Lf) (P:Int) (a m:Nat) (w:wO) (h:cy n lb l w) (ok:nL n l) (hn:n<=16) (i:a<n) (hm:m<n) (g:1<=P) (bN:P<=200) :
  Cp 203 #[.slice (pA lb) n n,J a,J m,J P] w fun e w'=>e=.returned (.tuple #[J (Ua l P a m),J (ld l P a m)])/\∃k,w'=w.drewN k:=by
 obtain⟨u,v⟩:=ok.rd a i;obtain⟨x,y⟩:=ok.rd m hm;obtain⟨z,A⟩:=ok.un a i;obtain⟨p,q⟩:=ok.bk a i;have ay:=h.lt;obtain⟨c0,c1,c2,c3⟩:=h.cells i;obtain⟨N,-,-,-⟩:=h.cells hm;have X:(a:Int)<(n:Int):=oM
 have M:(m:Int)<(n:Int):=oM
 have B:Ua l P a m=if 0<l.bk a then min (if m=a then 1 else -((l.rd m - l.rd a) / P)) 1 else (if m=a then 1 else -((l.rd m - l.rd a) / P)):=rfl
 have C:ld l P a m=if l.ou a=true then max ((l.un a - l.rd m) / P) 0 else (l.un a - l.rd m) / P:=rfl
 rw [B,C];clear B C h ok;obtain⟨O,Q,G,H⟩:=YP (n:=l.rd m - l.rd a) (d:=P) g oM oM;obtain⟨S,T,j3,I⟩:=YP (n:=l.un a - l.rd m) (d:=P) g oM oM;obtain⟨t,r⟩:=nm ((l.rd m - l.rd a) / P);obtain⟨R,s⟩:=nm ((l.un a - l.rd m) / P);have b:=Z (fun W=>AN (l.rd m - l.rd a) P t W g oM oM oM r);have c:=Z (fun W=>AN (l.un a - l.rd m) P R W g oM oM oM s);rw [r] at G H ⊢;rw [s] at j3 I ⊢;obtain⟨K,o⟩:=nm (l.rd m - l.rd a);obtain⟨U,F⟩:=nm (l.un a - l.rd m);have L:wrap64 (l.rd m - l.rd a)=K:=by unfold wrap64;omega
 have bZ:wrap64 (-t)=-t:=by unfold wrap64;omega
 have V:wrap64 (l.un a - l.rd m)=U:=by unfold wrap64;omega
 rw [o] at b;rw [F] at c;generalize l.un a=ua at *
 generalize l.bk a=D at *
 generalize l.ou a=j at *
 clear r s O Q G H S T j3 I u v x y z A p q F;by_cases e:m=a
 ·rw [Qf e];subst e;clear N M;obtain rfl:K=0:=oM
  clear L o;generalize l.rd m=ra at *
  by_cases f:0<D
  ·rw [Qf f];cases j with
   | true =>
    go_enter func203,ntmps203;go_wp2;go_big_quiet ((go_at_call 241;exact Calls.quiet_of_same (b _)));go_wp2;all_goals (go_big_quiet ((go_at_call 241;exact Vf (c _)));go_wp2)
    all_goals (go_ret2;refine⟨Ve ?_ ?_,_,rfl⟩ <;> (first | rfl | omega | (split <;> omega) | (simp;done)))
   | false =>
    go_enter func203,ntmps203;go_wp2;go_big_quiet ((go_at_call 241;exact Calls.quiet_of_same (b _)));go_wp2;all_goals (go_big_quiet ((go_at_call 241;exact Vf (c _)));go_wp2)
    all_goals (go_ret2;refine⟨Ve ?_ ?_,_,rfl⟩ <;> (first | rfl | omega | (split <;> omega) | (simp;done)))
  rw [Qe f];cases j with
  | true =>
   go_enter func203,ntmps203;go_wp2;go_big_quiet ((go_at_call 241;exact Calls.quiet_of_same (b _)));go_wp2;all_goals (go_big_quiet ((go_at_call 241;exact Vf (c _)));go_wp2)
   all_goals (go_ret2;refine⟨Ve ?_ ?_,_,rfl⟩ <;> (first | rfl | omega | (split <;> omega) | (simp;done)))
  | false =>
   go_enter func203,ntmps203;go_wp2;go_big_quiet ((go_at_call 241;exact Calls.quiet_of_same (b _)));go_wp2;all_goals (go_big_quiet ((go_at_call 241;exact Vf (c _)));go_wp2)
   all_goals (go_ret2;refine⟨Ve ?_ ?_,_,rfl⟩ <;> (first | rfl | omega | (split <;> omega) | (simp;done)))
 rw [Qe e];have hb:((m:Int) == (a:Int))=false:=by simp;omega
 have ab:¬(m:Int)=(a:Int):=oM
 clear e o;generalize l.rd m=rm at *
 generalize l.rd a=ra at *
 by_cases f:0<D
 ·rw [Qf f];cases j with
  | true =>
   go_enter func203,ntmps203;go_wp2;go_big_quiet ((go_at_call 241;exact Calls.quiet_of_same (b _)));go_wp2;all_goals (go_big_quiet ((go_at_call 241;exact Vf (c _)));go_wp2)
   all_goals (go_ret2;refine⟨Ve ?_ ?_,_,rfl⟩ <;> (first | rfl | omega | (split <;> omega) | (simp;done)))
  | false =>
   go_enter func203,ntmps203;go_wp2;go_big_quiet ((go_at_call 241;exact Calls.quiet_of_same (b _)));go_wp2;all_goals (go_big_quiet ((go_at_call 241;exact Vf (c _)));go_wp2)
   all_goals (go_ret2;refine⟨Ve ?_ ?_,_,rfl⟩ <;> (first | rfl | omega | (split <;> omega) | (simp;done)))
 rw [Qe f];cases j with
 | true =>
  go_enter func203,ntmps203;go_wp2;go_big_quiet ((go_at_call 241;exact Calls.quiet_of_same (b _)));go_wp2;all_goals (go_big_quiet ((go_at_call 241;exact Vf (c _)));go_wp2)
  all_goals (go_ret2;refine⟨Ve ?_ ?_,_,rfl⟩ <;> (first | rfl | omega | (split <;> omega) | (simp;done)))
 | false =>
  go_enter func203,ntmps203;go_wp2;go_big_quiet ((go_at_call 241;exact Calls.quiet_of_same (b _)));go_wp2;all_goals (go_big_quiet ((go_at_call 241;exact Vf (c _)));go_wp2)
  all_goals (go_ret2;refine⟨Ve ?_ ?_,_,rfl⟩ <;> (first | rfl | omega | (split <;> omega) | (simp;done)))
section
variable {c:Bc} {base:Nat}
def pI (c:Bc) (base:Nat) (Ev:Nat->Nat->Int->Prop) (w:wO) (e:Ending) (w':wO):Prop:=e=.returned (.tuple #[])/\xi c base Ev w'/\Below base w w'
def AQ (Ev:Nat->Nat->Int->Prop) (a m:Nat) (on:Int) (w:wO) (h:xi c base Ev w) (f:a<c.n) (hm:m<c.n) (hn:c.n<=16) (Q:1<=c.R) (S:c.R<=128) (h1:-100000<=on) (G:on<=100000) :
  Cp 204 #[.slice (pA c.ob) c.n c.n,J a,J m,J on] w fun e w'=>pI c base (lN Ev a m on) w e w':=by
 obtain⟨d,k⟩:∃d:Nat,on % (c.R:Int)=d:=⟨(on % (c.R:Int)).toNat,by have:=QS on (show (c.R:Int)≠0 by omega);omega⟩;obtain⟨d',j⟩:∃d:Nat,(-on) % (c.R:Int)=d:=⟨((-on) % (c.R:Int)).toNat,by have:=QS (-on) (show (c.R:Int)≠0 by omega);omega⟩;have T:(d:Int)<(c.R:Int):=k ▸ QP _ (by omega)
 have U:(d':Int)<(c.R:Int):=j ▸ QP _ (by omega)
 have u:=Z (fun W=>VO on c.R d W (by omega) (by omega) (by omega) (by omega) k);have l:=Z (fun W=>VO (-on) c.R d' W (by omega) (by omega) (by omega) (by omega) j);have s:Hid (∀nq,pI c base (lN Ev a m on) w (.returned (.tuple #[])) (((w.drewN nq).setCell (E (c.cb a m) d) (.bool true)).setCell (E (c.cb m a) d') (.bool true))):=fun nq=>by obtain⟨g,i⟩:=(h.gE (Qm _ w nq)).bar f hm (by omega) (by omega) k j;exact⟨rfl,g,(Qm _ w nq).t i⟩
 obtain⟨B,b,-⟩:=h;have o1:=b.o.cell f;have H:=b.o.cell hm;have I:=b.o.lt;have r1:=(b.r a f).cell hm;have r2:=(b.r m hm).cell f;have p:=(b.r a f).lt;have q:=(b.r m hm).lt;have A:=(b.cc a m f hm).cell (show d<c.R by omega);have D:=(b.cc a m f hm).frozen d;have M:=(b.cc a m f hm).lt;have N:=(b.cc m a hm f).lt;have F:=(b.cc m a hm f).frozen d';have v:=(((b.set f hm (show d<c.R by omega)).cc m a hm f).cell (show d'<c.R by omega));have C:=(b.cc m a hm f).cell (show d'<c.R by omega);have x:=(((b.set f hm (show d<c.R by omega)).cc m a hm f).frozen d');have O:(a:Int)<(c.n:Int):=by omega
 have P:(m:Int)<(c.n:Int):=by omega
 obtain⟨no,t⟩:=nm (-on);have hw:wrap64 (-on)=no:=by unfold wrap64;omega
 rw [t] at l;generalize B a m d=v1 at *
 generalize B m a d'=v2 at *
 generalize nM B a m d m a d'=K at *
 generalize c.cb a m=g at *
 generalize c.cb m a=i at *
 generalize c.rb a=k1 at *
 generalize c.rb m=k2 at *
 generalize c.ob=ob at *
 generalize c.n=n at *
 generalize c.R=R at *
 clear b k j t h1 G;go_enter func204,ntmps204;go_wp2;go_big_quiet ((fail));go_wp2_with fail;apply (u _).m;rintro e L ⟨rfl,rfl⟩;go_wp2_with fail;apply (l _).m;rintro e L ⟨rfl,rfl⟩;have z:=Z (s nq);have V:((w.drewN nq).setCell (E g d) (.bool true)).cell? (E i d')=some (.bool K):=v;have X:((w.drewN nq).setCell (E g d) (.bool true)).frozen? (E i d')=false:=x;have z4:i<((w.drewN nq).setCell (E g d) (.bool true)).z:=by simpa using N
 clear s u l A v C D F x o1 H r1 r2 p q I M;generalize (w.drewN nq).setCell (E g d) (.bool true)=y at *
 go_wp2;go_end0;exact z
def KG {B:Nat->Nat->Nat->Bool} (a:Nat) (w:wO) (h:Zi c base B w) (b:a<c.n) (hn:c.n<=16) (d:1<=c.R) (i:c.R<=128) :
  Cp 198 #[.slice (pA c.ob) c.n c.n,J a] w (Re w (.bool (B a a 0))):=by
 have o1:=h.o.cell b;have p:=h.o.lt;have r1:=(h.r a b).cell b;have f:=(h.r a b).lt;have l:=(h.cc a a b b).cell (show 0<c.R by omega);have q:=(h.cc a a b b).lt;have g:(a:Int)<(c.n:Int):=oM
 have j:(0:Int)<(c.R:Int):=oM
 have k:0<c.R:=d;generalize B a a 0=v at *
 generalize c.cb a a=m at *
 generalize c.rb a=k1 at *
 generalize c.ob=ob at *
 generalize c.n=n at *
 generalize c.R=R at *
 clear h;go_enter func198,ntmps198;go_wp2;go_ret;exact⟨rfl,rfl⟩
end
section
variable {c:Bc} {base:Nat}
def jj (Ev:Nat->Nat->Int->Prop) (l:Lf) (a m q r:Nat):Nat->Nat->Int->Prop:=fun a' m' o=>Ev a' m' o\/(a'=a/\m'=m/\∃q' r':Nat,(q'<q\/(q'=q/\r'<r))/\(q':Int)<l.bk a/\(r':Int)<l.bk m/\(a≠m\/q'≠r')/\o=(q':Int) - r')
def nN (Ev:Nat->Nat->Int->Prop) (l:Lf) (a m:Nat):Nat->Nat->Int->Prop:=fun a' m' o=>Ev a' m' o\/(a'=a/\m'=m/\AD l a m o)
def KH (Ev:Nat->Nat->Int->Prop) (l:Lf) (a m:Nat) (a' b:Nat) (o:Int):Ev a' b o↔jj Ev l a m 0 0 a' b o:=by simp [jj]
def KI {l:Lf} (n:(q:Int)<l.bk a) (hr:(r:Int)<l.bk m) (i:a≠m\/q≠r) (a' g:Nat) (o:Int):lN (jj Ev l a m q r) a m ((q:Int) - r) a' g o↔jj Ev l a m q (r+1) a' g o:=by
 constructor
 ·rintro ((h | ⟨rfl,rfl,b,c,h,d⟩) | ⟨rfl,rfl,rfl⟩)
  ·exact .inl h
  ·exact .inr ⟨rfl,rfl,b,c,lI,d⟩
  exact .inr ⟨rfl,rfl,q,r,lI,n,hr,i,rfl⟩
 rintro (h | ⟨rfl,rfl,b,c,h,d,j,k,f⟩)
 ·exact .inl (.inl h)
 by_cases e:b=q/\c=r
 ·obtain⟨rfl,rfl⟩:=e;exact .inr ⟨rfl,rfl,f⟩
 exact .inl (.inr ⟨rfl,rfl,b,c,lI,d,j,k,f⟩)
def KJ {l:Lf} (k:¬(a≠m\/q≠r)) (a' f:Nat) (o:Int):jj Ev l a m q r a' f o↔jj Ev l a m q (r+1) a' f o:=by
 constructor
 ·rintro (h | ⟨rfl,rfl,c,d,h,b⟩)
  ·exact .inl h
  exact .inr ⟨rfl,rfl,c,d,lI,b⟩
 rintro (h | ⟨rfl,rfl,c,d,h,b,g,i,j⟩)
 ·exact .inl h
 refine .inr ⟨rfl,rfl,c,d,?_,b,g,i,j⟩;lia
def KL {l:Lf} (hr:¬(r:Int)<l.bk m) (a' f:Nat) (o:Int):jj Ev l a m q r a' f o↔jj Ev l a m (q+1) 0 a' f o:=by
 constructor
 ·rintro (h | ⟨rfl,rfl,c,d,h,b⟩)
  ·exact .inl h
  exact .inr ⟨rfl,rfl,c,d,lI,b⟩
 rintro (h | ⟨rfl,rfl,c,d,h,b,g,i,j⟩)
 ·exact .inl h
 exact .inr ⟨rfl,rfl,c,d,lI,b,g,i,j⟩
def KM {l:Lf} (k:¬(q:Int)<l.bk a) (a' f:Nat) (o:Int):jj Ev l a m q 0 a' f o↔nN Ev l a m a' f o:=by
 constructor
 ·rintro (h | ⟨rfl,rfl,c,d,h,b⟩)
  ·exact .inl h
  exact .inr ⟨rfl,rfl,c,d,b⟩
 rintro (h | ⟨rfl,rfl,c,d,b,g,i,j⟩)
 ·exact .inl h
 exact .inr ⟨rfl,rfl,c,d,lI,b,g,i,j⟩
def KN (Ev:Nat->Nat->Int->Prop) (l:Lf) (lb a m:Nat) (w:wO) (h:xi c base Ev w) (B:cy c.n lb l w) (A:lb<base) (ok:nL c.n l) (C:a<c.n) (hm:m<c.n) (hn:c.n<=16) (N:1<=c.R) (O:c.R<=128) :
  Cp 205 #[.slice (pA c.ob) c.n c.n,.slice (pA lb) c.n c.n,J a,J m] w fun e w'=>pI c base (nN Ev l a m) w e w':=by
 obtain⟨S,T⟩:=ok.bk a C;obtain⟨X,bm2⟩:=ok.bk m hm;have aU:(a:Int)<(c.n:Int):=oM
 have aV:(m:Int)<(c.n:Int):=oM
 have K:=Z (fun H on W b h1 h2=>AQ (c:=c) (base:=base) H a m on W b C hm hn N O h1 h2);have aJ:Hid (xi c base (jj Ev l a m 0 0) w):=h.congr fun a' D _ _ o=>KH _ _ _ _ _ _ _;have z:Hid (∀(q r:Nat) W,(q:Int)<l.bk a->(r:Int)<l.bk m->(a≠m\/q≠r)->xi c base (lN (jj Ev l a m q r) a m ((q:Int) - r)) W->xi c base (jj Ev l a m q (r+1)) W):=fun q r W h1 h2 p b=>b.congr fun a' D _ _ o=>KI h1 h2 p _ _ _;have aI:Hid (∀(q r:Nat) W,¬(a≠m\/q≠r)->xi c base (jj Ev l a m q r) W->xi c base (jj Ev l a m q (r+1)) W):=fun q r W p b=>b.congr fun a' D _ _ o=>KJ p _ _ _;have gS:Hid (∀(q r:Nat) W,¬(r:Int)<l.bk m->xi c base (jj Ev l a m q r) W->xi c base (jj Ev l a m (q+1) 0) W):=fun q r W p b=>b.congr fun a' D _ _ o=>KL p _ _ _;have ai:Hid (∀(q:Nat) W,¬(q:Int)<l.bk a->xi c base (jj Ev l a m q 0) W->Below base w W->pI c base (nN Ev l a m) w (.returned (.tuple #[])) W):=fun q W p b hb=>⟨rfl,b.congr fun a' D _ _ o=>KM p _ _ _,hb⟩;have y:Hid (∀W,Below base w W->lb<W.z/\W.c lb (a*4+2)=Y (l.bk a)/\W.c lb (m*4+2)=Y (l.bk m)):=fun W b=>⟨(B.gE b A).lt,((B.gE b A).cells C).2.2.1,((B.gE b A).cells hm).2.2.1⟩;obtain⟨z0,F,G⟩:=y w (QA _ _);obtain⟨Q,aA⟩:=nm (l.bk a);obtain⟨V,bR⟩:=nm (l.bk m);rw [aA] at z ai y F S T;rw [bR] at z gS y G X bm2;have cH:=Z (⟨hn,N,O⟩:c.n<=16/\1<=c.R/\c.R<=128);obtain⟨ob,bW⟩:=nm c.ob;obtain⟨n,P⟩:=nm c.n;rw [bW,P] at K ⊢;rw [P] at aU aV hn;clear h B ok aA bR bW P C hm N O A;go_enter func205,ntmps205;go_wp2;clear z0 F G;go_loopw [15] (fun qv wr=>∃q:Nat,(q:Int)<=Q/\qv=J q/\xi c base (jj Ev l a m q 0) wr/\Below base w wr) (fun qv _=>(Q - intOf qv).toNat)
 case atStart=>exact⟨0,oM,rfl,aJ,QA _ _⟩
 clear aJ;obtain⟨q,hq,rfl,s,g⟩:=hrel;have j:=Z s;have i:=Z g;by_cases v:(q:Int)<Q
 ·obtain⟨z0,F,G⟩:=y wr g;clear s g;rename wO=>wo;go_wp2;clear z0 F G;go_loopw [23] (fun rv wr=>∃r:Nat,(r:Int)<=V/\rv=J r/\xi c base (jj Ev l a m q r) wr/\Below base w wr) (fun rv _=>(V - intOf rv).toNat)
  case atStart=>exact⟨0,oM,rfl,j,i⟩
  clear j i;obtain⟨r,hr,rfl,s,g⟩:=hrel;have j:=Z s;have i:=Z g;clear s g;by_cases x:(r:Int)<V
  ·have cM:wrap64 ((q:Int) - r)=(q:Int) - r:=(by unfold wrap64;omega);by_cases f:a=m
   ·have I:((a:Int) == (m:Int)):=(by simp [f]);have d:(a:Int)=(m:Int):=(by omega);by_cases k:q=r
    ·have bP:((q:Int) == (r:Int)):=(by simp [k]);have bQ:(q:Int)=(r:Int):=(by omega);have t:=Z (aI q r wr oM j);subst f k;clear I d bP bQ;go_wp2;go_roundw
     case rel=>exact⟨q+1,oM,nQ,t,i⟩
     simp [intOf];omega
    have bP:((q:Int) == (r:Int))=false:=(by simp;omega);have bQ:¬(q:Int)=(r:Int):=(by omega);have t:=Z (fun W b=>z q r W v x (.inr k) b);have M:=Z (K _ ((q:Int) - r) wr j oM oM);subst f;clear I d;go_wp2_with fail;apply M.m;rintro e x2 ⟨rfl,u,d⟩;have U:=Z (t _ u);have L:=Z (i.t d);clear u d;go_wp2;go_roundw
    case rel=>exact⟨r+1,oM,nQ,U,L⟩
    simp [intOf];omega
   have I:((a:Int) == (m:Int))=false:=(by simp;omega);have d:¬(a:Int)=(m:Int):=(by omega);have t:=Z (fun W b=>z q r W v x (.inl f) b);have M:=Z (K _ ((q:Int) - r) wr j oM oM);go_wp2_with fail;apply M.m;rintro e x2 ⟨rfl,u,d⟩;have U:=Z (t _ u);have L:=Z (i.t d);clear u d;go_wp2;go_roundw
   case rel=>exact⟨r+1,oM,nQ,U,L⟩
   simp [intOf];omega
  have HR:=Z (gS q r wr oM j);go_wp2;go_roundw
  case rel=>exact⟨q+1,oM,nQ,HR,i⟩
  simp [intOf];omega
 have HP:=Z (ai q wr oM s g);clear s g;go_wp2;go_end0;exact HP
end
section
structure VY (w:wO) (n R k k' j:Nat) (rb:Nat->Nat) (cb:Nat->Nat->Nat) (x:wO):Prop where
 bel:Bw w x
 o:zr x w.heap.size 322 n (fun a=>if a<k' then .slice (pA (rb a)) n n else .slice none 0 0)
 r:∀a,a<k'->zr x (rb a) 261 n (fun m=>if a<k\/m<j then .slice (pA (cb a m)) R R else .slice none 0 0)
 cc:∀a m,a<k'->m<n->(a<k\/m<j)->zr x (cb a m) 4 R (fun _=>.bool false)
 inj:∀a m a' m',a<k'->m<n->(a<k\/m<j)->a'<k'->m'<n->(a'<k\/m'<j)->cb a m=cb a' m'->a=a'/\m=m'
 rinj:∀a a',a<k'->a'<k'->rb a=rb a'->a=a'
 ger:∀a,a<k'->w.heap.size<=rb a
 gec:∀a m,a<k'->m<n->(a<k\/m<j)->w.heap.size<=cb a m
variable {w x y:wO} {n R k j:Nat} {rb:Nat->Nat} {cb:Nat->Nat->Nat}
def VY.gE {d:Nat} (h:VY w n R k d j rb cb x) (hb:Bw x y):VY w n R k d j rb cb y :=
 ⟨h.bel.tm hb,h.o.gE hb h.o.lt,fun a b=>(h.r a b).gE hb (h.r a b).lt,fun a m b hm c=>(h.cc a m b hm c).gE hb (h.cc a m b hm c).lt,h.inj,h.rinj,h.ger,h.gec⟩
theorem VY.start (w:wO) (n R:Nat):VY w n R 0 0 0 (fun _=>0) (fun _ _=>0) (w.alloc (.cells (madeCells #[.slice none 0 0] n) 322)) :=
 ⟨Qd _ _,(zr.zeros w sN n _).congr fun i _=>rQ,fun a b=>absurd b (Qv _),fun a m b=>absurd b (Qv _),fun a m a' c b=>absurd b (Qv _),fun a a' b=>absurd b (Qv _),fun a b=>absurd b (Qv _),fun a m b=>absurd b (Qv _)⟩
def j7 (rb:Nat->Nat) (k g:Nat):Nat->Nat:=fun a=>if a=k then g else rb a
def mR (cb:Nat->Nat->Nat) (k j g:Nat):Nat->Nat->Nat:=fun a m=>if a=k/\m=j then g else cb a m
def AR (x:wO) (a:Addr) (v:vO):(x.setCell a v).heap.size=x.heap.size:=sM
def VY.row (h:VY w n R k k j rb cb x) (t:k<n):VY w n R k (k+1) 0 (j7 rb k x.heap.size) cb ((x.setCell (E w.heap.size k) (.slice (pA x.heap.size) n n)).alloc (.cells (madeCells #[.slice none 0 0] n) 261)):=by
 have z:∀a,a<k->rb a<x.z:=fun a b=>(h.r a b).lt;have d:∀a,a<k->j7 rb k x.z a=rb a:=fun a b=>by grind [j7]
 have s:j7 rb k x.z k=x.z:=by simp [j7]
 have q:Below w.z x (x.st w.z k (vP x.z n n)):=Below.setCell (QA w.z x) (show w.z<=w.z from Qc _) _;have u:=AR x (E w.z k) (vP x.z n n);refine⟨(h.bel.t q).alloc (by rw [u];exact h.bel.size) _,?_,fun a b=>?_,fun a m b hm p=>?_,fun a m a' v b hm p f g y=>h.inj a m a' v lI hm lI lI g lI,fun a a' b f e=>?_,fun a b=>?_,fun a m b hm p=>h.gec a m lI hm lI⟩
 ·refine ((h.o.set k _ t).alloc _).congr fun a _=>?_;grind
 ·by_cases e:a=k
  ·grind [zr.zeros]
  have c:a<k:=lI
  rw [d a c];refine (((h.r a c).gF ((h.r a c).apart h.o tQ) _).alloc _).congr fun i _=>?_;simp_all
 ·have c:a<k:=lI
  have h1:=h.cc a m c hm (.inl c);exact (h1.gF (h1.apart h.o tQ) _).alloc _
 ·by_cases l:a=k
  ·grind
  by_cases c:a'=k
  ·grind
  rw [d a lI,d a' lI] at e;exact h.rinj a a' lI lI e
 by_cases l:a=k
 ·rw [l,s];exact h.bel.size
 rw [d a lI];exact h.ger a lI
theorem VY.cell (h:VY w n R k (k+1) j rb cb x) (y:j<n):VY w n R k (k+1) (j+1) rb (mR cb k j x.heap.size) ((x.setCell (E (rb k) j) (.slice (pA x.heap.size) R R)).alloc (.cells (madeCells #[.bool false] R) 4)):=by
 have d:∀a m,¬(a=k/\m=j)->mR cb k j x.z a m=cb a m:=fun a m b=>by grind [mR]
 have s:mR cb k j x.z k j=x.z:=by simp [mR]
 have p:=QF k;have u:Below w.z x (x.st (rb k) j (vP x.z R R)):=(QA _ _).setCell (h.ger k p) _;have z:=AR x (E (rb k) j) (vP x.z R R);refine⟨(h.bel.t u).alloc (by rw [z];exact h.bel.size) _,(h.o.gF (h.o.apart (h.r k p) tQ) _).alloc _,fun a b=>?_,fun a m b hm t=>?_,fun a m a' g b hm t l q A e=>?_,h.rinj,h.ger,fun a m b hm t=>?_⟩
 ·by_cases e:a=k
  ·rw [e];refine (((h.r k p).set j _ y).alloc _).congr fun i _=>?_;grind
  have f:a<k:=lI
  refine (((h.r a b).gF (fun v=>e (h.rinj a k b p v)) _).alloc _).congr fun i _=>?_;simp_all
 ·by_cases e:a=k/\m=j
  ·grind [zr.zeros]
  rw [d a m e];have h1:=h.cc a m b hm lI;exact (h1.gF (h1.apart (h.r k p) tQ) _).alloc _
 ·by_cases c:a=k/\m=j
  ·by_cases f:a'=k/\g=j
   ·lia
   rw [c.1,c.2,s,d a' g f] at e;have:=(h.cc a' g l q lI).lt;lia
  by_cases f:a'=k/\g=j
  ·rw [f.1,f.2,s,d a m c] at e;have:=(h.cc a m b hm lI).lt;lia
  rw [d a m c,d a' g f] at e;exact h.inj a m a' g b hm lI l q lI e
 by_cases c:a=k/\m=j
 ·rw [c.1,c.2,s];exact h.bel.size
 rw [d a m c];exact h.gec a m b hm lI
def VY.full (h:VY w n R k (k+1) n rb cb x):VY w n R (k+1) (k+1) 0 rb cb x :=
 ⟨h.bel,h.o,fun a b=>(h.r a b).congr fun i hi=>sA,fun a m b hm _=>h.cc a m b hm (.inr hm),fun a m a' f b hm _ d c _=>h.inj a m a' f b hm (.inr hm) d c (.inr c),h.rinj,h.ger,fun a m b hm _=>h.gec a m b hm (.inr hm)⟩
def VY.done (h:VY w n R n n 0 rb cb x):xi ⟨n,R,w.heap.size,rb,cb⟩ w.heap.size (fun _ _ _=>False) x:=by refine⟨fun _ _ _=>false,⟨h.o.congr fun i hi=>by rw [Qf hi],fun a b=>(h.r a b).congr fun i hi=>rQ,fun a m b hm=>h.cc a m b hm (.inl b),fun a m a' g b hm c f=>h.inj a m a' g b hm (.inl b) c f (.inl c),Qc _,h.ger,fun a m b hm=>h.gec a m b hm (.inl b)⟩,fun a m b hm d j=>⟨fun h=>absurd h sM,?_⟩⟩;rintro ⟨o,⟨h,-⟩ | ⟨h,-⟩⟩ <;> exact h.elim
def AS (w:wO) (n R:Nat) (e:Ending) (w':wO):Prop:=∃rb cb,e=.returned (.slice (pA w.heap.size) n n)/\xi ⟨n,R,w.heap.size,rb,cb⟩ w.heap.size (fun _ _ _=>False) w'/\Bw w w'
def KO:(prog.info? 322).map (fun i=>(i.zero,i.size,i.bytes))=some (some (.slice none 0 0),1,24):=kR
def KP:(prog.info? 261).map (fun i=>(i.zero,i.size,i.bytes))=some (some (.slice none 0 0),1,24):=kR
def AT:(prog.info? 4).map (fun i=>(i.zero,i.size,i.bytes))=some (some (.bool false),1,1):=kR
def KQ (n R:Nat) (w:wO) (v:1<=n) (hn:n<=16) (t:1<=R) (u:R<=128) :
  Cp 202 #[J n,J R] w fun e w'=>AS w n R e w':=by
 have i:=Z (VY.start w n R);have x:=run_make_row' (P:=prog) 217 322 sN 24 underlying217 KO rfl .i64 .i64 n oM oM;have y:=run_make_row' (P:=prog) 322 261 sN 24 underlying322 KP rfl .i64 .i64 n oM oM;have z:=run_make_row' (P:=prog) 261 4 (.bool false) 1 underlying261 AT rfl .i64 .i64 R oM oM;go_enter func202,ntmps202;go_wp2;go_loopw [11] (fun kv wr=>∃(k:Nat) (rb:Nat->Nat) (cb:Nat->Nat->Nat),k<=n/\kv=J k/\VY w n R k k 0 rb cb wr) (fun kv _=>n - (intOf kv).toNat)
 case atStart=>exact⟨0,_,_,Ql _,rfl,i⟩
 clear i;obtain⟨k,rb,cb,B,rfl,a⟩:=hrel;by_cases b:k<n
 ·have q:(k:Int)<(n:Int):=oM
  have f:=Z (a.row b);have g:=a.o.cell b;have of:=a.o.frozen k;have l:=a.o.lt;rw [Qe oM] at g;clear a;rename wO=>wo;go_wp2;clear g of l;go_loopw [20] (fun h wr=>∃(j:Nat) (rb:Nat->Nat) (cb:Nat->Nat->Nat),j<=n/\h=J j/\VY w n R k (k+1) j rb cb wr) (fun h _=>n - (intOf h).toNat)
  case atStart=>exact⟨0,_,_,Ql _,rfl,f⟩
  clear f;obtain⟨j,rb,cb,A,rfl,a⟩:=hrel;by_cases d:j<n
  ·have s:(j:Int)<(n:Int):=(by omega);have c:=QF k;have f:=Z ((a.cell d).gE (Qm _ _ 1));have g:=a.o.cell b;have l:=a.o.lt;have rc:=(a.r k c).cell d;have rf:=(a.r k c).frozen j;have D:=(a.r k c).lt;rw [Qf c] at g;rw [Qe oM] at rc;clear a c;generalize rb k=C at *
   go_wp2;go_region;go_wp2;go_roundw
   case rel=>exact⟨j+1,rb,mR cb k j wr.z,oM,nQ,f⟩
   simp [intOf];omega
  have e:j=n:=oM
  subst e;have s:¬(j:Int)<(j:Int):=oM
  have m:=Z a.full;clear a;go_wp2;go_roundw
  case rel=>exact⟨k+1,rb,cb,oM,nQ,m⟩
  simp [intOf];omega
 have e:k=n:=oM
 subst e;have q:¬(k:Int)<(k:Int):=oM
 have p:Hid (AS w k R (.returned (vP w.z k k)) wr):=⟨rb,cb,rfl,a.done,a.bel⟩;clear a;go_wp2;go_ret;exact p
end
def jf (l:Lf) (P R:Int) (k j:Nat):Nat->Nat->Int->Prop:=fun a' m' o=>(a'<k\/(a'=k/\m'<j))/\mj l P R a' m' o
def jT (Ev:Nat->Nat->Int->Prop) (a m:Nat) (f tn:Int):Nat->Nat->Int->Prop:=fun a' m' o=>Ev a' m' o\/(a'=a/\m'=m/\f<=o/\o<tn)
def KR (Ev:Nat->Nat->Int->Prop) (a m:Nat) (f:Int) (a' b:Nat) (o:Int):Ev a' b o↔jT Ev a m f f a' b o:=by grind [jT]
def AU {f:Int} (h:f<=tn) (a' b:Nat) (o:Int):lN (jT Ev a m f tn) a m tn a' b o↔jT Ev a m f (tn+1) a' b o:=by grind [lN,jT]
def KT {l:Lf} {P R:Int} {k j:Nat} {lt:Int} (h1:lt<tn) (h:tn<=lt+1\/tn=Ua l P k j) (i:lt=min (ld l P k j) (Ua l P k j+R - 1)) (a' c:Nat) (o:Int):nN (jT (jf l P R k j) k j (Ua l P k j) tn) l k j a' c o↔jf l P R k (j+1) a' c o:=by
 constructor
 ·rintro ((⟨b,a⟩ | ⟨rfl,rfl,b,a⟩) | ⟨rfl,rfl,b⟩)
  ·exact⟨lI,a⟩
  ·exact⟨.inr ⟨rfl,lI⟩,.inl ⟨b,lI,lI⟩⟩
  exact⟨.inr ⟨rfl,lI⟩,.inr b⟩
 rintro ⟨b,a⟩;by_cases e:a'=k/\c=j
 ·obtain⟨rfl,rfl⟩:=e;rcases a with ⟨d,f,g⟩ | a
  ·exact .inl (.inr ⟨rfl,rfl,d,lI⟩)
  exact .inr ⟨rfl,rfl,a⟩
 exact .inl (.inl ⟨lI,a⟩)
def KU {l:Lf} {P R:Int} {k n:Nat} (a' a:Nat) (hm:a<n) (o:Int):jf l P R k n a' a o↔jf l P R (k+1) 0 a' a o:=by grind [jf]
def KW {l:Lf} {P R:Int} {n:Nat} (a' a:Nat) (b:a'<n) (o:Int):jf l P R n 0 a' a o↔mj l P R a' a o:=by grind [jf]
def KX {l:Lf} {P R:Int} (a' a:Nat) (o:Int):False↔jf l P R 0 0 a' a o:=by simp [jf]
def KY {n:Nat} {l:Lf} {P:Int} (ok:nL n l) (j:1<=P) (b:a<n) (hm:m<n):-2000000<=Ua l P a m/\Ua l P a m<=2000/\-2000000<=ld l P a m/\ld l P a m<=2000/\-2000<=Ua l P a m:=by
 obtain⟨c,d⟩:=ok.rd a b;obtain⟨f,g⟩:=ok.rd m hm;obtain⟨h,i⟩:=ok.un a b;have b1:-1100<=(l.rd m - l.rd a) / P:=(WW lI).2 lI;have b2:(l.rd m - l.rd a) / P<1100:=(EC lI).2 lI;have b3:-1100<=(l.un a - l.rd m) / P:=(WW lI).2 lI;have b4:(l.un a - l.rd m) / P<1700:=(EC lI).2 lI;grind [sS,Ua,ld]
def AV (w:wO) (n R:Nat) (l:Lf) (P:Int) (e:Ending) (w':wO):Prop:=∃rb cb,e=.returned (.slice (pA w.heap.size) n n)/\xi ⟨n,R,w.heap.size,rb,cb⟩ w.heap.size (mj l P R) w'/\Bw w w'
def KZ (n R lb:Nat) (l:Lf) (P:Int) (w:wO) (H:cy n lb l w) (ok:nL n l) (bV:1<=n) (hn:n<=16) (M:1<=R) (N:R<=128) (af:1<=P) (bN:P<=200) :
  Cp 147 #[.slice (pA lb) n n,J P,J R] w fun e w'=>AV w n R l P e w':=by
 have O:=H.lt;have aH:=Z (KQ n R w bV hn M N);have aZ:=Z (fun a m (z:a<n) (hm:m<n)=>KY (P:=P) ok af z hm);have aL:=Z (fun a m W (z:a<n) (hm:m<n) (u:Bw w W)=>KF n lb l P a m W (H.gE u O) ok hn z hm af bN);have ae:=Z (fun rb cb Ev a m on W (u:xi ⟨n,R,w.z,rb,cb⟩ w.z Ev W) (z:a<n) (hm:m<n) h1 h2=>AQ (c:=⟨n,R,w.z,rb,cb⟩) Ev a m on W u z hm hn M N h1 h2);have aK:=Z (fun rb cb Ev a m W (u:xi ⟨n,R,w.z,rb,cb⟩ w.z Ev W) (hb:Bw w W) (z:a<n) (hm:m<n)=>KN (c:=⟨n,R,w.z,rb,cb⟩) Ev l lb a m W u (H.gE hb O) O ok z hm hn M N);clear H ok;go_enter func147,ntmps147;go_wp2_with fail;apply aH.m;rintro e x0 ⟨rb,cb,rfl,bM,bO⟩;have bK:Hid (xi ⟨n,R,w.z,rb,cb⟩ w.z (jf l P R 0 0) x0):=bM.congr fun a' A _ _ o=>KX _ _ _;have bJ:=Z bO;clear bM bO aH;go_wp2_with fail;go_loopw [19] (fun kv wr=>∃k:Nat,k<=n/\kv=J k/\xi ⟨n,R,w.z,rb,cb⟩ w.z (jf l P R k 0) wr/\Bw w wr) (fun kv _=>n - (intOf kv).toNat)
 case atStart=>exact⟨0,Ql _,rfl,bK,bJ⟩
 clear bK bJ;obtain⟨k,hk,rfl,s,hb⟩:=hrel;have d:=Z s;have b:=Z hb;clear s hb;by_cases i:k<n
 ·have bC:(k:Int)<(n:Int):=oM
  rename wO=>wo;go_wp2_with fail;go_loopw [24] (fun jv wr=>∃j:Nat,j<=n/\jv=J j/\xi ⟨n,R,w.z,rb,cb⟩ w.z (jf l P R k j) wr/\Bw w wr) (fun jv _=>n - (intOf jv).toNat)
  case atStart=>exact⟨0,Ql _,rfl,d,b⟩
  clear d b;obtain⟨j,hj,rfl,s,hb⟩:=hrel;have d:=Z s;have b:=Z hb;clear s hb;by_cases g:j<n
  ·have bz:(j:Int)<(n:Int):=(by omega);have I:=Z (aL k j wr i g b);obtain⟨g1,g2,g3,g4,g5⟩:=aZ k j i g;have L:Hid (∀W lt tn,lt<tn->(tn<=lt+1\/tn=Ua l P k j)->lt=min (ld l P k j) (Ua l P k j+R - 1)->xi ⟨n,R,w.z,rb,cb⟩ w.z (nN (jT (jf l P R k j) k j (Ua l P k j) tn) l k j) W->xi ⟨n,R,w.z,rb,cb⟩ w.z (jf l P R k (j+1)) W):=fun W lt tn q1 q2 q3 u=>u.congr fun a' A _ _ o=>KT q1 q2 q3 _ _ _;have S:Hid (∀m,xi ⟨n,R,w.z,rb,cb⟩ w.z (jT (jf l P R k j) k j (Ua l P k j) (Ua l P k j)) (wr.drewN m)):=fun m=>(d.gE (Qm _ _ m)).congr fun a' A _ _ o=>KR _ _ _ _ _ _ _;obtain⟨f,U⟩:∃f,Ua l P k j=f:=⟨_,rfl⟩;obtain⟨t,X⟩:∃t,ld l P k j=t:=⟨_,rfl⟩;rw [U,X] at I L;rw [U] at S g1 g2 g5;rw [X] at g3 g4;have aE:wrap64 (f+R)=f+R:=(by unfold wrap64;omega);have bZ:wrap64 (f+R - 1)=f+R - 1:=(by unfold wrap64;omega);clear U X d;rename wO=>w1;go_wp2_with fail;apply I.m;rintro e x1 ⟨rfl,mm,rfl⟩;have F:Hid (Bw w (w1.drewN mm)):=b.t (Qm _ _ _);have G:=Z (S mm);generalize w1.drewN mm=y at *
   clear b S I;have cu:(t=min t (f+R - 1)/\¬f+R - 1<t/\t<=3000)\/(f+R - 1=min t (f+R - 1)/\f+R - 1<t/\f+R - 1<=3000):=(by omega);rcases cu with ⟨C,Q,bD⟩ | ⟨C,Q,bD⟩
   ·have K:=Z C;clear C;go_wp2_with fail;clear Q;generalize t=lt at *
    clear aE;go_loopw [12] (fun tv wr=>∃tn:Int,tv=J tn/\f<=tn/\(tn<=lt+1\/tn=f)/\xi ⟨n,R,w.z,rb,cb⟩ w.z (jT (jf l P R k j) k j f tn) wr/\Bw w wr) (fun tv _=>(lt+1 - intOf tv).toNat)
    case atStart=>exact⟨f,rfl,QR _,.inr rfl,G,F⟩
    clear G F;obtain⟨tn,rfl,ht1,ht2,s,hb⟩:=hrel;have d:=Z s;have b:=Z hb;clear s hb;by_cases htl:tn<=lt
    ·have aF:wrap64 (tn+1)=tn+1:=(by unfold wrap64;omega);have p:=Z (ae rb cb _ k j tn wr d i g oM oM);go_wp2_with fail;apply p.m;rintro e D ⟨rfl,r,q⟩;have v:Hid (xi ⟨n,R,w.z,rb,cb⟩ w.z (jT (jf l P R k j) k j f (tn+1)) D):=r.congr fun a' A _ _ o=>AU ht1 _ _ _;have x:=Z (b.t q);clear r q p;go_wp2_with fail;go_roundw
     case rel=>exact⟨tn+1,by first | rfl | go_num,oM,.inl oM,v,x⟩
     simp [intOf];omega
    have p:=Z (aK rb cb _ k j wr d b i g);have B:=Z (fun W u=>L W lt tn oM ht2 K u);go_wp2_with fail;apply p.m;rintro e D ⟨rfl,r,q⟩;have v:=Z (B _ r);have x:=Z (b.t q);clear r q p B;go_wp2_with fail;go_roundw
    case rel=>exact⟨j+1,oM,nQ,v,x⟩
    simp [intOf];omega
   have K:=Z C;clear C;go_wp2_with fail;clear Q;generalize f+(R:Int) - 1=lt at *
   clear aE;go_loopw [12] (fun tv wr=>∃tn:Int,tv=J tn/\f<=tn/\(tn<=lt+1\/tn=f)/\xi ⟨n,R,w.z,rb,cb⟩ w.z (jT (jf l P R k j) k j f tn) wr/\Bw w wr) (fun tv _=>(lt+1 - intOf tv).toNat)
   case atStart=>exact⟨f,rfl,QR _,.inr rfl,G,F⟩
   clear G F;obtain⟨tn,rfl,ht1,ht2,s,hb⟩:=hrel;have d:=Z s;have b:=Z hb;clear s hb;by_cases htl:tn<=lt
   ·have aF:wrap64 (tn+1)=tn+1:=(by unfold wrap64;omega);have p:=Z (ae rb cb _ k j tn wr d i g oM oM);go_wp2_with fail;apply p.m;rintro e D ⟨rfl,r,q⟩;have v:Hid (xi ⟨n,R,w.z,rb,cb⟩ w.z (jT (jf l P R k j) k j f (tn+1)) D):=r.congr fun a' A _ _ o=>AU ht1 _ _ _;have x:=Z (b.t q);clear r q p;go_wp2_with fail;go_roundw
    case rel=>exact⟨tn+1,by first | rfl | go_num,oM,.inl oM,v,x⟩
    simp [intOf];omega
   have p:=Z (aK rb cb _ k j wr d b i g);have B:=Z (fun W u=>L W lt tn oM ht2 K u);go_wp2_with fail;apply p.m;rintro e D ⟨rfl,r,q⟩;have v:=Z (B _ r);have x:=Z (b.t q);clear r q p B;go_wp2_with fail;go_roundw
   case rel=>exact⟨j+1,oM,nQ,v,x⟩
   simp [intOf];omega
  have e:j=n:=oM
  have bz:¬(j:Int)<(n:Int):=oM
  have HF:Hid (xi ⟨n,R,w.z,rb,cb⟩ w.z (jf l P R (k+1) 0) wr):=by have h:=d;rw [e] at h;exact h.congr fun a' A _ V o=>KU _ _ V _
  clear e;go_wp2;go_roundw
  case rel=>exact⟨k+1,oM,nQ,HF,b⟩
  simp [intOf];omega
 have e:k=n:=oM
 have bC:¬(k:Int)<(n:Int):=oM
 have HP:Hid (AV w n R l P (.returned (vP w.z n n)) wr):=by have h:=d;rw [e] at h;exact⟨rb,cb,rfl,h.congr fun a' A T _ o=>KW _ _ T _,b⟩
 clear e;go_wp2;go_ret;exact HP
end
def Mv {w:wO} {base:Nat} {e:TypeId} {v:vO} {zs:Li} (h:w.ownsRow base e 1 v zs.length (zs.map (Value.int .i64))) (k:∀i,i<zs.length->-9223372036854775808<=ak zs i/\ak zs i<=9223372036854775807):zM w v zs:=by obtain⟨a,cap,d,h1,f⟩:=Yf h;refine⟨a,cap,d,h1,f,k,fun j=>?_⟩;obtain⟨g,c,b,n,l,m,hr⟩:=yC h (.inr j);rw [d] at b;injection b with e1 e2 e3;refine⟨g,0,e1,hr.lt,fun i hi=>?_⟩;rw [QO,hr.cell hi,VE zs i hi]
def pS:Prop:=∀(v pv:vO) (t:Tg) (L:Lp) (P:Int) (T:Li) (w:wO),zI w v L->Xs w pv P T->zZ L t P T=true ->
 Calls Tryz.prog 95 #[v,.agg t.cells,pv] w fun e w'=>Bw w w'/\∃da dl dc c,e=.returned (.tuple #[.slice da dl dc,J c]) /\
  ((c=1/\dl=0/\Xd L t P T none)\/(c=0/\∃D,zM w' (.slice da dl dc) D/\Xd L t P T (some D)))
end Go.Proofs.YtjlfcbccpcigeacGreatDoor
