import Derived.Test.YtjoapiafpahihabGreatMaths
import Derived.Test.YtjoapiafpahihabGreatRounds
namespace Go.Proofs.YtjoapiafpahihabGreat
set_option linter.unusedVariables false
section
variable (t:Tg) (K:Kn) (logs:List Int) (turns:Nat) (s0:Kst)
def yG (k i:Nat):Int:=(zq K.ops k).sl+K.pc*((zq K.ops k).sg+i)
def UW (n:Nat):Nat->Int:=ZC n (xD t K logs turns s0 n).due (xD t K logs turns s0 n).f (xD t K logs turns s0 n).due.length
def UJ (k i:Nat):Int:=zgw logs t.r K.pc (yG K k i) (UW t K logs turns s0 (yG K k i).toNat) (xD t K logs turns s0 (yG K k i).toNat).m (zq K.ops k)
def Zy (k i:Nat):Int:=yG K k i+xA t (zC (zq K.ops k).o)
def ZF (k i:Nat):Int:=((zq K.ops k).d+((zq K.ops k).sg+i)) % t.r
def evE (k i:Nat):Du:=⟨Zy t K k i,ZF t K k i,UJ t K logs turns s0 k i⟩
end
structure KOk (t:Tg) (K:Kn) (turns:Nat):Prop where
 pc:1<=K.pc
 st:1<=K.st
 r:1<=t.r
 op:∀k,k<K.ops.length->(0<=(zq K.ops k).sl/\(zq K.ops k).sl<K.pc)/\(0<=(zq K.ops k).sg/\(zq K.ops k).sg<K.st)
 wt:∀o,1<=xA t (zC o)/\xA t (zC o)<=6
 tu:1<=turns
variable {t:Tg} {K:Kn} {logs:List Int} {turns:Nat} {s0:Kst}
theorem yO (h:KOk t K turns) {k:Nat} (hk:k<K.ops.length) (i:Nat):0<=yG K k i/\yG K k i / K.pc=(zq K.ops k).sg+i/\yG K k i % K.pc=(zq K.ops k).sl:=by
 obtain⟨⟨h1,h2⟩,h3,h4⟩:=h.op k hk
 have hp:=h.pc
 have h5:0<=K.pc*((zq K.ops k).sg+i):=Int.mul_nonneg (by omega) (by omega)
 refine⟨by unfold yG;omega,?_,?_⟩
 ·unfold yG
  rw [Int.add_mul_ediv_left _ _ (by omega:K.pc≠0),Int.ediv_eq_zero_of_lt h1 h2,Int.zero_add]
 ·unfold yG
  rw [Int.add_mul_emod_self_left]
  exact Int.emod_eq_of_lt h1 h2
theorem XA (h:KOk t K turns) {k n:Nat} (hk:k<K.ops.length):U3 K.pc turns n (zq K.ops k)=true↔∃i,i<turns/\(n:Int)=yG K k i:=by
 obtain⟨⟨h1,h2⟩,h3,h4⟩:=h.op k hk
 have hp:=h.pc
 unfold U3
 simp only [Bool.and_eq_true,decide_eq_true_eq]
 constructor
 ·rintro ⟨⟨e1,e2⟩,e3⟩
  refine⟨((n:Int) / K.pc - (zq K.ops k).sg).toNat,by omega,?_⟩
  unfold yG
  rw [e1,show (zq K.ops k).sg+((((n:Int) / K.pc - (zq K.ops k).sg).toNat:Nat):Int)=(n:Int) / K.pc by omega]
  have:=Int.emod_add_mul_ediv (n:Int) K.pc
  omega
 ·rintro ⟨i,hi,e⟩
  obtain⟨-,h5,h6⟩:=yO h hk i
  rw [e,h5,h6]
  exact⟨⟨rfl,by omega⟩,by omega⟩
theorem V7 (h:KOk t K turns) {k i:Nat} (hk:k<K.ops.length) (hi:i<turns):yG K k i<Xe K turns:=by
 obtain⟨⟨h1,h2⟩,h3,h4⟩:=h.op k hk
 unfold yG Xe
 have hp:=h.pc
 have h5:K.pc*((zq K.ops k).sg+i)<=K.pc*((turns:Int)+K.st - 1 - 1):=Int.mul_le_mul_of_nonneg_left (by omega) (by omega)
 have h6:K.pc*((turns:Int)+K.st - 1 - 1)=((turns:Int)+K.st - 1)*K.pc - K.pc:=by rw [Int.mul_sub,Int.mul_one,Int.mul_comm]
 omega
theorem zpc {logs:List Int} {tu now:Int} {f:Nat->Int} {m:Nat->Nat->Int} {q:Nx} {d:Du}:∀k,d∈(VK t K logs tu now f m q k).du↔d∈q.du\/∃j,j<k/\U3 K.pc tu now (zq K.ops j)=true/\d=⟨now+xA t (zC (zq K.ops j).o),((zq K.ops j).d+now / K.pc) % t.r,zgw logs t.r K.pc now f m (zq K.ops j)⟩:=by
 intro k
 induction k with
 | zero=>exact⟨.inl,fun h=>h.elim id fun ⟨j,hj,_⟩=>absurd hj (Nat.not_lt_zero _)⟩
 | succ k ih =>
   show d∈(opK t logs K.pc tu now f m (VK t K logs tu now f m q k) (zq K.ops k)).du↔_
   unfold opK
   by_cases ha:U3 K.pc tu now (zq K.ops k)=true
   ·rw [if_pos ha]
    show d∈(VK t K logs tu now f m q k).du++[_]↔_
    rw [List.mem_append,ih,List.mem_singleton]
    constructor
    ·rintro ((h | ⟨j,h1,h2,h3⟩) | h)
     ·exact .inl h
     ·exact .inr ⟨j,by omega,h2,h3⟩
     ·exact .inr ⟨k,by omega,ha,h⟩
    ·rintro (h | ⟨j,h1,h2,h3⟩)
     ·exact .inl (.inl h)
     ·by_cases e:j=k
      ·subst e;exact .inr h3
      ·exact .inl (.inr ⟨j,by omega,h2,h3⟩)
   ·rw [if_neg ha,ih]
    constructor
    ·rintro (h | ⟨j,h1,h2,h3⟩)
     ·exact .inl h
     ·exact .inr ⟨j,by omega,h2,h3⟩
    ·rintro (h | ⟨j,h1,h2,h3⟩)
     ·exact .inl h
     ·by_cases e:j=k
      ·subst e;exact absurd h2 ha
      ·exact .inr ⟨j,by omega,h2,h3⟩
theorem zq3 (n:Nat):(xD t K logs turns s0 (n+1)).f=UW t K logs turns s0 n:=by
 show (zf7 t K logs turns n (xD t K logs turns s0 n)).f=_
 unfold zf7
 split <;> rfl
theorem ze3 (n:Nat) (d:Du):d∈(xD t K logs turns s0 (n+1)).due↔(d∈(xD t K logs turns s0 n).due/\d.at_≠n)\/(¬Xe K turns<=n/\∃j,j<K.ops.length/\U3 K.pc turns n (zq K.ops j)=true/\d=⟨n+xA t (zC (zq K.ops j).o),((zq K.ops j).d+n / K.pc) % t.r,zgw logs t.r K.pc n (UW t K logs turns s0 n) (xD t K logs turns s0 n).m (zq K.ops j)⟩):=by
 have hr:d∈ZS n (xD t K logs turns s0 n).due (xD t K logs turns s0 n).due.length↔d∈(xD t K logs turns s0 n).due/\d.at_≠n:=by
  rw [ze1,List.mem_filter]
  simp
 show d∈(zf7 t K logs turns n (xD t K logs turns s0 n)).due↔_
 unfold zf7
 by_cases hl:Xe K turns<=n
 ·rw [if_pos hl]
  show d∈ZS _ _ _↔_
  rw [hr]
  exact⟨.inl,fun h=>h.elim id fun h2=>absurd hl h2.1⟩
 ·rw [if_neg hl]
  show d∈(VK _ _ _ _ _ _ _ _ _).du↔_
  rw [zpc,<-hr]
  exact⟨fun h=>h.elim .inl fun h2=>.inr ⟨hl,h2⟩,fun h=>h.elim .inl fun h2=>.inr h2.2⟩
theorem XD (h:KOk t K turns) (h0:s0.due=[]):∀(n:Nat) (d:Du),d∈(xD t K logs turns s0 n).due↔∃k i,k<K.ops.length/\i<turns/\yG K k i<n/\n<=Zy t K k i/\d=evE t K logs turns s0 k i:=by
 intro n
 induction n with
 | zero =>
   intro d
   rw [show xD t K logs turns s0 0=s0 from rfl,h0]
   constructor
   ·intro h;cases h
   ·rintro ⟨k,i,hk,hi,hc,-⟩
    have:=(yO h hk i).1
    omega
 | succ n ih =>
   intro d
   rw [ze3,ih]
   constructor
   ·rintro (⟨⟨k,i,h1,h2,h3,h4,rfl⟩,h5⟩ | ⟨hl,j,hj,ha,rfl⟩)
    ·have h6:Zy t K k i≠n:=h5
     exact⟨k,i,h1,h2,by omega,by omega,rfl⟩
    ·obtain⟨i,hi,e⟩:=(XA h hj).1 ha
     obtain⟨-,h5,-⟩:=yO h hj i
     have hw:=h.wt (zq K.ops j).o
     refine⟨j,i,hj,hi,by omega,by unfold Zy;omega,?_⟩
     unfold evE Zy ZF UJ
     have hn:((n:Int)).toNat=n:=Int.toNat_natCast n
     rw [<-e,hn,e,h5]
   ·rintro ⟨k,i,h1,h2,h3,h4,rfl⟩
    by_cases hc:yG K k i<n
    ·refine .inl ⟨⟨k,i,h1,h2,hc,by omega,rfl⟩,?_⟩
     show Zy t K k i≠n
     omega
    ·have e:(n:Int)=yG K k i:=by omega
     obtain⟨-,h5,-⟩:=yO h h1 i
     refine .inr ⟨by have:=V7 h h1 h2;omega,k,h1,(XA h h1).2 ⟨i,h2,e⟩,?_⟩
     unfold evE Zy ZF UJ
     have hn:((n:Int)).toNat=n:=Int.toNat_natCast n
     rw [<-e,hn,e,h5]
theorem Vc {now:Int} {due:List Du} {f:Nat->Int} {y:Nat}:∀k,k<=due.length->(∀d∈due,d.at_=now->d.rg.toNat≠y)->ZC now due f k y=f y:=by
 intro k
 induction k with
 | zero=>exact fun _ _=>rfl
 | succ k ih =>
   intro hk h
   show (if (zrq due k).at_=now then zn1 (ZC now due f k) (zrq due k).rg.toNat (zrq due k).v else ZC now due f k) y=_
   by_cases e:(zrq due k).at_=now
   ·rw [if_pos e]
    unfold zn1
    rw [if_neg (fun e2=>h _ (zhd (by omega)) e e2.symm),ih (by omega) h]
   ·rw [if_neg e,ih (by omega) h]
theorem zm1 {now:Int} {due:List Du} {f:Nat->Int} {y:Nat} {v:Int}:∀k,k<=due.length->(∀d∈due,d.at_=now->d.rg.toNat=y->d.v=v)->(∃j,j<k/\(zrq due j).at_=now/\(zrq due j).rg.toNat=y)->ZC now due f k y=v:=by
 intro k
 induction k with
 | zero=>rintro _ _ ⟨j,hj,_⟩;omega
 | succ k ih =>
   rintro hk h ⟨j,hj,e1,e2⟩
   show (if (zrq due k).at_=now then zn1 (ZC now due f k) (zrq due k).rg.toNat (zrq due k).v else ZC now due f k) y=_
   by_cases e:(zrq due k).at_=now
   ·rw [if_pos e]
    unfold zn1
    by_cases e3:y=(zrq due k).rg.toNat
    ·rw [if_pos e3];exact h _ (zhd (by omega)) e e3.symm
    ·rw [if_neg e3]
     refine ih (by omega) h ⟨j,?_,e1,e2⟩
     by_cases e4:j=k
     ·subst e4;exact absurd e2.symm e3
     ·omega
   ·rw [if_neg e]
    refine ih (by omega) h ⟨j,?_,e1,e2⟩
    by_cases e4:j=k
    ·subst e4;exact absurd e1 e
    ·omega
theorem ze0 (n:Nat):UW t K logs turns s0 (n+1)=ZC (n+1:Nat) (xD t K logs turns s0 (n+1)).due (UW t K logs turns s0 n) (xD t K logs turns s0 (n+1)).due.length:=by
 show ZC (n+1:Nat) _ (xD t K logs turns s0 (n+1)).f _=_
 rw [zq3]
theorem zmd {l:List Du} {d:Du} (h:d∈l):∃j,j<l.length/\zrq l j=d:=by
 obtain⟨j,hj,rfl⟩:=List.mem_iff_getElem.1 h
 exact⟨j,hj,by unfold zrq;rw [List.getD,List.getElem?_eq_getElem hj];rfl⟩
theorem zk1 (h:KOk t K turns) (h0:s0.due=[]) (y:Nat):∀n:Nat,(∀k i,k<K.ops.length->i<turns->Zy t K k i<=n->(ZF t K k i).toNat≠y)->UW t K logs turns s0 n y=s0.f y:=by
 intro n
 induction n with
 | zero =>
   intro hno
   refine Vc _ (Nat.le_refl _) fun d hd e=>?_
   obtain⟨k,i,hk,hi,hc,-⟩:=(XD h h0 0 d).1 hd
   have:=(yO h hk i).1
   omega
 | succ n ih =>
   intro hno
   rw [ze0,Vc _ (Nat.le_refl _) fun d hd e=>?_]
   ·exact ih fun k i hk hi hd=>hno k i hk hi (by omega)
   ·obtain⟨k,i,hk,hi,hc,-,rfl⟩:=(XD h h0 (n+1) d).1 hd
    have e2:Zy t K k i=(n+1:Nat):=e
    exact hno k i hk hi (by omega)
theorem zdz (h:KOk t K turns) (h0:s0.due=[]) {k i:Nat} (hk:k<K.ops.length) (hi:i<turns):∀n:Nat,Zy t K k i<=n->(∀k' i',k'<K.ops.length->i'<turns->Zy t K k i<=Zy t K k' i'->Zy t K k' i'<=n->(ZF t K k' i').toNat=(ZF t K k i).toNat->k'=k/\i'=i) ->
  UW t K logs turns s0 n (ZF t K k i).toNat=UJ t K logs turns s0 k i:=by
 have hcy:=(yO h hk i).1
 have hwt:=h.wt (zq K.ops k).o
 intro n
 induction n with
 | zero=>intro hd;unfold Zy at hd;omega
 | succ n ih =>
   intro hd hone
   rw [ze0]
   by_cases e:Zy t K k i=(n+1:Nat)
   ·refine zm1 _ (Nat.le_refl _) (fun d hdd e1 e2=>?_) ?_
    ·obtain⟨k',i',hk',hi',hc,-,rfl⟩:=(XD h h0 (n+1) d).1 hdd
     have e3:Zy t K k' i'=(n+1:Nat):=e1
     obtain⟨rfl,rfl⟩:=hone k' i' hk' hi' (by omega) (by omega) e2
     rfl
    ·have hin:evE t K logs turns s0 k i∈(xD t K logs turns s0 (n+1)).due:=(XD h h0 (n+1) _).2 ⟨k,i,hk,hi,by unfold Zy at e;omega,by omega,rfl⟩
     obtain⟨j,hj,hje⟩:=zmd hin
     exact⟨j,hj,by rw [hje];exact e,by rw [hje];rfl⟩
   ·rw [Vc _ (Nat.le_refl _) fun d hdd e1 e2=>?_]
    ·exact ih (by omega) fun k' i' hk' hi' h1 h2 h3=>hone k' i' hk' hi' h1 (by omega) h3
    ·obtain⟨k',i',hk',hi',hc,-,rfl⟩:=(XD h h0 (n+1) d).1 hdd
     have e3:Zy t K k' i'=(n+1:Nat):=e1
     obtain⟨rfl,rfl⟩:=hone k' i' hk' hi' (by omega) (by omega) e2
     omega
end Go.Proofs.YtjoapiafpahihabGreat
namespace Go.Proofs.YtjoapiafpahihabGreat
set_option linter.unusedVariables false
def zev (K:Kn) (logs:List Int) (k i:Nat):Nat:=(idx (zq K.ops k).sp (zq K.ops k).pl i (nth logs (zq K.ops k).ar.toNat)).toNat
def zez (K:Kn) (logs:List Int) (a b k i:Nat):Prop:=(zq K.ops k).o=4/\(zq K.ops k).ar.toNat=a/\zev K logs k i=b
variable {t:Tg} {K:Kn} {logs:List Int} {turns:Nat} {s0:Kst}
theorem V1 (h:KOk t K turns) {k:Nat} (hk:k<K.ops.length) (i:Nat):VH logs K.pc (yG K k i) (zq K.ops k)=zev K logs k i:=by
 obtain⟨-,h5,-⟩:=yO h hk i
 unfold VH zev
 rw [h5,show (zq K.ops k).sg+(i:Int) - (zq K.ops k).sg=i by omega]
theorem zp7 {tu now:Int} {f:Nat->Int} {m:Nat->Nat->Int} {q:Nx} {a b:Nat}:∀k,(∀j,j<k->U3 K.pc tu now (zq K.ops j)=true->(zq K.ops j).o=4->¬((zq K.ops j).ar.toNat=a/\VH logs K.pc now (zq K.ops j)=b))->(VK t K logs tu now f m q k).nx a b=q.nx a b:=by
 intro k
 induction k with
 | zero=>exact fun _=>rfl
 | succ k ih =>
   intro h
   have ih':=ih fun j hj=>h j (by omega)
   show (opK t logs K.pc tu now f m (VK t K logs tu now f m q k) (zq K.ops k)).nx a b=_
   unfold opK
   by_cases ha:U3 K.pc tu now (zq K.ops k)=true
   ·rw [if_pos ha]
    show (if (zq K.ops k).o=4 then (_:Nat->Nat->Int) else _) a b=_
    by_cases ho:(zq K.ops k).o=4
    ·rw [if_pos ho]
     unfold Yj
     rw [if_neg fun e=>h k (by omega) ha ho ⟨e.1.symm,e.2.symm⟩,ih']
    ·rw [if_neg ho,ih']
   ·rw [if_neg ha,ih']
theorem zqo {tu now:Int} {f:Nat->Int} {m:Nat->Nat->Int} {q:Nx} {a b:Nat} {v:Int}:∀k,(∀j,j<k->U3 K.pc tu now (zq K.ops j)=true->(zq K.ops j).o=4->(zq K.ops j).ar.toNat=a->VH logs K.pc now (zq K.ops j)=b->zgw logs t.r K.pc now f m (zq K.ops j)=v) ->
  (∃j,j<k/\U3 K.pc tu now (zq K.ops j)=true/\(zq K.ops j).o=4/\(zq K.ops j).ar.toNat=a/\VH logs K.pc now (zq K.ops j)=b)->(VK t K logs tu now f m q k).nx a b=v:=by
 intro k
 induction k with
 | zero=>rintro _ ⟨j,hj,_⟩;omega
 | succ k ih =>
   rintro h ⟨j,hj,h1,h2,h3,h4⟩
   show (opK t logs K.pc tu now f m (VK t K logs tu now f m q k) (zq K.ops k)).nx a b=_
   unfold opK
   by_cases ha:U3 K.pc tu now (zq K.ops k)=true
   ·rw [if_pos ha]
    show (if (zq K.ops k).o=4 then (_:Nat->Nat->Int) else _) a b=_
    by_cases ho:(zq K.ops k).o=4
    ·rw [if_pos ho]
     unfold Yj
     by_cases e:a=(zq K.ops k).ar.toNat/\b=VH logs K.pc now (zq K.ops k)
     ·rw [if_pos e];exact h k (by omega) ha ho e.1.symm e.2.symm
     ·rw [if_neg e]
      refine ih (fun j hj=>h j (by omega)) ⟨j,?_,h1,h2,h3,h4⟩
      by_cases ej:j=k
      ·subst ej;exact absurd ⟨h3.symm,h4.symm⟩ e
      ·omega
    ·rw [if_neg ho]
     refine ih (fun j hj=>h j (by omega)) ⟨j,?_,h1,h2,h3,h4⟩
     by_cases ej:j=k
     ·subst ej;exact absurd h2 ho
     ·omega
   ·rw [if_neg ha]
    refine ih (fun j hj=>h j (by omega)) ⟨j,?_,h1,h2,h3,h4⟩
    by_cases ej:j=k
    ·subst ej;exact absurd h1 ha
    ·omega
theorem zq4 (n:Nat):(xD t K logs turns s0 (n+1)).m=if Xe K turns<=n then (xD t K logs turns s0 n).m else (VK t K logs turns n (UW t K logs turns s0 n) (xD t K logs turns s0 n).m ⟨(xD t K logs turns s0 n).m,ZS n (xD t K logs turns s0 n).due (xD t K logs turns s0 n).due.length⟩ K.ops.length).nx:=by
 show (zf7 t K logs turns n (xD t K logs turns s0 n)).m=_
 unfold zf7
 split <;> rfl
theorem zdg (h:KOk t K turns) {a b n:Nat} (hno:∀k i,k<K.ops.length->i<turns->zez K logs a b k i->yG K k i≠n):(xD t K logs turns s0 (n+1)).m a b=(xD t K logs turns s0 n).m a b:=by
 rw [zq4]
 split
 ·rfl
 ·refine zp7 _ fun j hj ha ho e=>?_
  obtain⟨i,hi,en⟩:=(XA h hj).1 ha
  refine hno j i hj hi ⟨ho,e.1,?_⟩ en.symm
  rw [<-V1 h hj,<-en]
  exact e.2
theorem zj9 (h:KOk t K turns) {a b:Nat}:∀n:Nat,(∀k i,k<K.ops.length->i<turns->zez K logs a b k i->n<=yG K k i)->(xD t K logs turns s0 n).m a b=s0.m a b:=by
 intro n
 induction n with
 | zero=>exact fun _=>rfl
 | succ n ih =>
   intro hno
   rw [zdg h fun k i hk hi hs=>by have:=hno k i hk hi hs;omega]
   exact ih fun k i hk hi hs=>by have:=hno k i hk hi hs;omega
theorem zmf (h:KOk t K turns) {a b k i:Nat} (hk:k<K.ops.length) (hi:i<turns) (hs:zez K logs a b k i):∀n:Nat,yG K k i<n->(∀k' i',k'<K.ops.length->i'<turns->zez K logs a b k' i'->yG K k i<=yG K k' i'->yG K k' i'<n->k'=k/\i'=i) ->
  (xD t K logs turns s0 n).m a b=UJ t K logs turns s0 k i:=by
 have hcy:=(yO h hk i).1
 have hla:=V7 h hk hi
 intro n
 induction n with
 | zero=>intro hd;omega
 | succ n ih =>
   intro hd hone
   by_cases e:yG K k i=n
   ·have hn:(n:Int).toNat=n:=Int.toNat_natCast n
    rw [zq4,if_neg (by omega)]
    refine zqo _ (fun j hj ha ho e1 e2=>?_) ⟨k,hk,(XA h hk).2 ⟨i,hi,e.symm⟩,hs.1,hs.2.1,?_⟩
    ·obtain⟨i',hi',en⟩:=(XA h hj).1 ha
     have hs2:zez K logs a b j i':=⟨ho,e1,by rw [<-V1 h hj,<-en];exact e2⟩
     obtain⟨rfl,rfl⟩:=hone j i' hj hi' hs2 (by omega) (by omega)
     unfold UJ
     rw [e,hn]
    ·rw [<-e,V1 h hk];exact hs.2.2
   ·rw [zdg h fun k' i' hk' hi' hs' e2=>?_]
    ·exact ih (by omega) fun k' i' hk' hi' hs' h1 h2=>hone k' i' hk' hi' hs' h1 (by omega)
    ·obtain⟨rfl,rfl⟩:=hone k' i' hk' hi' hs' (by omega) (by omega)
     omega
end Go.Proofs.YtjoapiafpahihabGreat
namespace Go.Proofs.YtjoapiafpahihabGreat
set_option linter.unusedVariables false
theorem ZR {p:Nat->Nat->Prop} {n:Nat} (h0:p 0 0) (hs:∀i k,k<n->p i k->p i (k+1)) (ht:∀i,p i n->p (i+1) 0):∀i k,k<=n->p i k:=by
 have h1:∀i,p i 0->∀k,k<=n->p i k:=by
  intro i hi k
  induction k with
  | zero=>exact fun _=>hi
  | succ k ih=>exact fun hk=>hs i k (by omega) (ih (by omega))
 have h2:∀i,p i 0:=by
  intro i
  induction i with
  | zero=>exact h0
  | succ i ih=>exact ht i (h1 i ih n (Nat.le_refl _))
 exact fun i k hk=>h1 i (h2 i) k hk
def atS (L:Lp) (B M:List (List Int)) (i k:Nat):Sq:=znz L B i k (zpn L B i (zgf M))
def zgx (L:Lp) (B M:List (List Int)) (i k:Nat):Int:=comes L B i (atS L B M i k) (z6 L.body k)
def Xi (L:Lp) (a b i k:Nat):Prop:=(z6 L.body k).o=4/\(z6 L.body k).ar.toNat=a/\xe L i (z6 L.body k)=b
def yj (i k i' k':Nat):Prop:=i<i'\/(i=i'/\k<k')
variable {L:Lp} {B M:List (List Int)}
theorem zbh (i k:Nat):atS L B M i (k+1)=zq5 L B i (atS L B M i k) k:=rfl
theorem zbi (i:Nat):atS L B M (i+1) 0=atS L B M i L.body.length:=rfl
theorem zqd (i:Nat):zpn L B i (zgf M)=atS L B M i 0:=rfl
theorem zo5:∀i k,k<=L.body.length->∀i' k',k'<L.body.length->yj i' k' i k->(atS L B M i k).val i' k'=zgx L B M i' k':=by
 refine ZR ?_ ?_ ?_
 ·intro i' k' _ h;unfold yj at h;omega
 ·intro i k hk ih i' k' hk' h
  rw [zbh]
  show Yj (atS L B M i k).val i k (comes L B i (atS L B M i k) (z6 L.body k)) i' k'=_
  by_cases e:i'=i/\k'=k
  ·obtain⟨rfl,rfl⟩:=e
   rw [zpg];rfl
  ·unfold Yj
   rw [if_neg e]
   exact ih i' k' hk' (by unfold yj at h ⊢;omega)
 ·intro i ih i' k' hk' h
  rw [zbi]
  exact ih i' k' hk' (by unfold yj at h ⊢;omega)
theorem zgc {a b:Nat}:∀i k,k<=L.body.length->(∀i' k',k'<L.body.length->yj i' k' i k->¬Xi L a b i' k')->(atS L B M i k).mem a b=nth (VC M a) b:=by
 refine ZR ?_ ?_ ?_
 ·exact fun _=>rfl
 ·intro i k hk ih h
  rw [zbh]
  show (if (z6 L.body k).o=4 then Yj (atS L B M i k).mem (z6 L.body k).ar.toNat (xe L i (z6 L.body k)) (comes L B i (atS L B M i k) (z6 L.body k)) else (atS L B M i k).mem) a b=_
  have ih':=ih fun i' k' hk' h2=>h i' k' hk' (by unfold yj at h2 ⊢;omega)
  split
  ·next ho =>
   unfold Yj
   rw [if_neg fun e=>h i k hk (by unfold yj;omega) ⟨ho,e.1.symm,e.2.symm⟩,ih']
  ·exact ih'
 ·intro i ih h
  rw [zbi]
  exact ih fun i' k' hk' h2=>h i' k' hk' (by unfold yj at h2 ⊢;omega)
theorem zka {a b i0 k0:Nat} (hk0:k0<L.body.length) (hs:Xi L a b i0 k0):∀i k,k<=L.body.length->yj i0 k0 i k->(∀i' k',k'<L.body.length->Xi L a b i' k'->yj i0 k0 i' k'->¬yj i' k' i k)->(atS L B M i k).mem a b=zgx L B M i0 k0:=by
 refine ZR ?_ ?_ ?_
 ·intro h;unfold yj at h;omega
 ·intro i k hk ih h hno
  rw [zbh]
  show (if (z6 L.body k).o=4 then Yj (atS L B M i k).mem (z6 L.body k).ar.toNat (xe L i (z6 L.body k)) (comes L B i (atS L B M i k) (z6 L.body k)) else (atS L B M i k).mem) a b=_
  by_cases e:i0=i/\k0=k
  ·obtain⟨rfl,rfl⟩:=e
   rw [if_pos hs.1]
   unfold Yj
   rw [if_pos ⟨hs.2.1.symm,hs.2.2.symm⟩];rfl
  ·have h3:yj i0 k0 i k:=by unfold yj at h ⊢;omega
   have ih':=ih h3 fun i' k' hk' h2 h4 h5=>hno i' k' hk' h2 h4 (by unfold yj at h5 ⊢;omega)
   split
   ·next ho =>
    unfold Yj
    rw [if_neg fun e2=>hno i k hk ⟨ho,e2.1.symm,e2.2.symm⟩ h3 (by unfold yj;omega),ih']
   ·exact ih'
 ·intro i ih h hno
  rw [zbi]
  exact ih (by unfold yj at h ⊢;omega) fun i' k' hk' h2 h4 h5=>hno i' k' hk' h2 h4 (by unfold yj at h5 ⊢;omega)
theorem zoz (L:Lp) (a b:Nat):∀i k,k<=L.body.length->(∀i' k',k'<L.body.length->yj i' k' i k->¬Xi L a b i' k')\/∃i0 k0,k0<L.body.length/\Xi L a b i0 k0/\yj i0 k0 i k/\∀i' k',k'<L.body.length->Xi L a b i' k'->yj i0 k0 i' k'->¬yj i' k' i k:=by
 refine ZR ?_ ?_ ?_
 ·exact .inl fun i' k' _ h=>by unfold yj at h;omega
 ·intro i k hk ih
  by_cases hs:Xi L a b i k
  ·exact .inr ⟨i,k,hk,hs,by unfold yj;omega,fun i' k' hk' _ h1 h2=>by unfold yj at h1 h2;omega⟩
  ·rcases ih with ih | ⟨i0,k0,h1,h2,h3,h4⟩
   ·refine .inl fun i' k' hk' h=>?_
    by_cases e:i'=i/\k'=k
    ·obtain⟨rfl,rfl⟩:=e;exact hs
    ·exact ih i' k' hk' (by unfold yj at h ⊢;omega)
   ·refine .inr ⟨i0,k0,h1,h2,by unfold yj at h3 ⊢;omega,fun i' k' hk' h5 h6 h7=>?_⟩
    by_cases e:i'=i/\k'=k
    ·obtain⟨rfl,rfl⟩:=e;exact hs h5
    ·exact h4 i' k' hk' h5 h6 (by unfold yj at h7 ⊢;omega)
 ·intro i ih
  rcases ih with ih | ⟨i0,k0,h1,h2,h3,h4⟩
  ·exact .inl fun i' k' hk' h=>ih i' k' hk' (by unfold yj at h ⊢;omega)
  ·exact .inr ⟨i0,k0,h1,h2,by unfold yj at h3 ⊢;omega,fun i' k' hk' h5 h6 h7=>h4 i' k' hk' h5 h6 (by unfold yj at h7 ⊢;omega)⟩
end Go.Proofs.YtjoapiafpahihabGreat
namespace Go.Proofs.YtjoapiafpahihabGreat
set_option linter.unusedVariables false
theorem zri {L:Lp} {t:Tg} {fr to bk wt:Nat} (h:isD L t fr to bk wt=true):∀k,wt<k->(⟨fr,to,bk,wt⟩:Ed)∈wtD L t fr to bk k:=by
 intro k
 induction k with
 | zero=>intro h;omega
 | succ k ih =>
   intro hk
   show _∈(if isD L t fr to bk k=true then wtD L t fr to bk k++[⟨fr,to,bk,k⟩] else wtD L t fr to bk k)
   by_cases e:wt=k
   ·subst e;rw [if_pos h];simp
   ·have:=ih (by omega)
    split
    ·exact List.mem_append.2 (.inl this)
    ·exact this
theorem zhe {L:Lp} {t:Tg} {fr to bk wt:Nat} (h:isD L t fr to bk wt=true) (hf:fr<L.body.length) (ht:to<L.body.length) (hb:bk<33) (hw:wt<7):(⟨fr,to,bk,wt⟩:Ed)∈z8 L t:=by
 have h1:∀k,bk<k->(⟨fr,to,bk,wt⟩:Ed)∈bkD L t fr to k:=by
  intro k
  induction k with
  | zero=>intro h;omega
  | succ k ih =>
    intro hk
    show _∈bkD L t fr to k++wtD L t fr to k 7
    by_cases e:bk=k
    ·subst e;exact List.mem_append.2 (.inr (zri h 7 hw))
    ·exact List.mem_append.2 (.inl (ih (by omega)))
 have h2:∀k,to<k->(⟨fr,to,bk,wt⟩:Ed)∈toD L t fr k:=by
  intro k
  induction k with
  | zero=>intro h;omega
  | succ k ih =>
    intro hk
    show _∈toD L t fr k++bkD L t fr k 33
    by_cases e:to=k
    ·subst e;exact List.mem_append.2 (.inr (h1 33 hb))
    ·exact List.mem_append.2 (.inl (ih (by omega)))
 have h3:∀k,fr<k->(⟨fr,to,bk,wt⟩:Ed)∈frD L t k:=by
  intro k
  induction k with
  | zero=>intro h;omega
  | succ k ih =>
    intro hk
    show _∈frD L t k++toD L t k L.body.length
    by_cases e:fr=k
    ·subst e;exact List.mem_append.2 (.inr (h2 _ ht))
    ·exact List.mem_append.2 (.inl (ih (by omega)))
 exact h3 _ hf
theorem Vf (s p r q size:Int):(s*(r+size*q)+p) % size=(s*r+p) % size:=by
 have e:s*(r+size*q)+p=s*r+p+size*(s*q):=by
  rw [Int.mul_add,<-Int.mul_assoc,Int.mul_comm s size,Int.mul_assoc];omega
 rw [e,Int.add_mul_emod_self_left]
theorem zmc {a b:St} {d size i:Nat} (hs:0<size) (h:(a.sp*i+a.pl) % size=(b.sp*((i:Int)+d)+b.pl) % size):zE a b d size=true:=by
 refine yR (Nat.mod_lt i hs) (decide_eq_true ?_)
 have e:(i:Int)=((i % size:Nat):Int)+size*(i / size:Nat):=by
  have:=Nat.mod_add_div i size
  rw [<-Int.natCast_mul]
  omega
 rw [e,Vf,show ((i % size:Nat):Int)+size*(i / size:Nat)+d=((i % size:Nat):Int)+d+size*(i / size:Nat) by omega,Vf] at h
 exact h
theorem zfq {a b:St} {d size:Nat} (h:zE a b (d+size) size=true):zE a b d size=true:=by
 obtain⟨k,hk,h2⟩:=Yf.1 h
 refine Yf.2 ⟨k,hk,decide_eq_true ?_⟩
 have h3:=of_decide_eq_true h2
 rw [h3,show (k:Int)+(d+size:Nat)=(k:Int)+d+size*1 by omega,Vf]
theorem zj2 {p:Nat->Bool}:∀n,p n=true->∃m,m<=n/\p m=true/\∀i,i<m->p i=false:=by
 intro n
 induction n using Nat.strongRecOn with
 | _ n ih =>
   intro h
   by_cases e:∃i,i<n/\p i=true
   ·obtain⟨i,hi,h2⟩:=e
    obtain⟨m,h3,h4,h5⟩:=ih i hi h2
    exact⟨m,by omega,h4,h5⟩
   ·refine⟨n,Nat.le_refl _,h,fun i hi=>?_⟩
    cases hp:p i
    ·rfl
    ·exact absurd ⟨i,hi,hp⟩ e
theorem zlq {a b:St} {lo d size:Nat} (hs:0<size) (hl:lo<=1) (hd:lo<=d) (h:zE a b d size=true):∃bk,bk<=d/\bk<=size/\zW a b lo bk size=true:=by
 obtain⟨m,h1,h2,h3⟩:=zj2 (p:=fun m=>decide (lo<=m) && zE a b m size) d (by show (decide (lo<=d) && zE a b d size)=true;rw [h,decide_eq_true hd];rfl)
 have h4:lo<=m/\zE a b m size=true:=by simpa using h2
 have h5:m<=size:=by
  by_cases e:m<=size
  ·exact e
  ·exfalso
   have h6:=h3 (m - size) (by omega)
   have h7:zE a b (m - size) size=true:=zfq (by rw [Nat.sub_add_cancel (by omega)];exact h4.2)
   have h8:(decide (lo<=m - size) && zE a b (m - size) size)=false:=h6
   rw [h7,decide_eq_true (by omega)] at h8
   cases h8
 refine⟨m,h1,h5,?_⟩
 unfold zW
 rw [decide_eq_true h4.1,decide_eq_true h5,h4.2]
 refine (Bool.true_and _).trans (zN fun i hi=>?_)
 have h6:(decide (lo<=i) && zE a b i size)=false:=h3 i hi
 by_cases e:i<lo
 ·rw [decide_eq_true e];rfl
 ·rw [decide_eq_true (by omega)] at h6
  have h7:zE a b i size=false:=h6
  rw [h7];simp
theorem Zc {L:Lp} {k:Nat} (hm:zx L=true) (hk:k<L.body.length) (ho:(z6 L.body k).o=3\/(z6 L.body k).o=4):0<=(z6 L.body k).ar/\(z6 L.body k).ar<L.logs.length/\-64<=(z6 L.body k).sp/\(z6 L.body k).sp<=64/\-64<=(z6 L.body k).pl/\(z6 L.body k).pl<=64/\0<=nth L.logs (z6 L.body k).ar.toNat/\nth L.logs (z6 L.body k).ar.toNat<=5:=by
 obtain⟨-,-,-,-,h5,-,h7⟩:=zj hm
 have h:=zl h7 k hk
 have hw:yy L.logs.length (z6 L.body k).ar (z6 L.body k).sp (z6 L.body k).pl=true:=by
  have h':yd L.logs.length L.body.length k (z6 L.body k)=true:=h
  unfold yd at h'
  rcases ho with ho | ho
  ·rw [if_neg (by omega),if_neg (by omega),if_pos ho] at h'
   simp only [Bool.and_eq_true] at h'
   exact h'.2
  ·rw [if_neg (by omega),if_neg (by omega),if_neg (by omega),if_pos ho] at h'
   simp only [Bool.and_eq_true] at h'
   exact h'.1.2
 unfold yy at hw
 simp only [Bool.and_eq_true] at hw
 have h1:=zo.1 hw.1.1
 have h2:=zo.1 hw.1.2
 have h3:=zo.1 hw.2
 have h4:=zo.1 (zl h5 (z6 L.body k).ar.toNat (by omega))
 exact⟨h1.1,by omega,h2.1,h2.2,h3.1,h3.2,h4.1,h4.2⟩
theorem zew {L:Lp} {k i:Nat} (hm:zx L=true) (hk:k<L.body.length) (hi:i<=200) (ho:(z6 L.body k).o=3\/(z6 L.body k).o=4):(xe L i (z6 L.body k):Int)=((z6 L.body k).sp*i+(z6 L.body k).pl) % (yS L (z6 L.body k):Nat):=by
 obtain⟨h1,h2,h3,h4,h5,h6,h7,h8⟩:=Zc hm hk ho
 rw [<-zes]
 unfold idx
 rw [if_pos (by omega)]
 rfl
theorem zme {L:Lp} (t:Tg) {i x i' y:Nat} (hm:zx L=true) (hx:x<L.body.length) (hy:y<L.body.length) (hi:i<=200) (hi':i'<=200) (hd:zU (z6 L.body x) (z6 L.body y)=true) (ha:yj i x i' y) (hw:xe L i (z6 L.body x)=xe L i' (z6 L.body y)) :
  ∃bk wt:Nat,i+bk<=i'/\(wt:Int)=xm (z6 L.body x)/\(⟨x,y,bk,wt⟩:Ed)∈z8 L t:=by
 have hd':=hd
 unfold zU yA at hd'
 simp only [Bool.and_eq_true,Bool.or_eq_true,decide_eq_true_eq] at hd'
 obtain⟨⟨⟨ox,oy⟩,ear⟩,-⟩:=hd'
 have mx:=zew hm hx hi ox
 have my:=zew hm hy hi' oy
 obtain⟨-,-,-,-,-,-,h7,h8⟩:=Zc hm hx ox
 have esz:yS L (z6 L.body y)=yS L (z6 L.body x):=by unfold yS;rw [ear]
 have hs0:0<yS L (z6 L.body x):=Nat.two_pow_pos _
 have hs5:yS L (z6 L.body x)<=32:=by
  have h2:2 ^ (nth L.logs (z6 L.body x).ar.toNat).toNat<=2 ^ 5:=Nat.pow_le_pow_right (by omega) (by omega)
  exact h2
 have hle:i<=i':=by unfold yj at ha;omega
 have hmeet:zE (z6 L.body x) (z6 L.body y) (i' - i) (yS L (z6 L.body x))=true:=by
  refine zmc hs0 (i:=i) ?_
  rw [show (i:Int)+((i' - i:Nat):Int)=(i':Int) by omega,<-mx,hw,my,esz]
 obtain⟨bk,hb1,hb2,hb3⟩:=zlq (lo:=yh x y) hs0 (by unfold yh;split <;> omega) (by unfold yh;unfold yj at ha;split <;> omega) hmeet
 have hwd:∃wt:Nat,(wt:Int)=xm (z6 L.body x)/\wt<7:=by
  unfold xm
  split
  ·exact⟨1,rfl,by omega⟩
  ·exact⟨0,rfl,by omega⟩
 obtain⟨wt,hwt,hw7⟩:=hwd
 refine⟨bk,wt,by omega,hwt,zhe ?_ hx hy (by omega) hw7⟩
 unfold isD
 rw [hd,hb3,decide_eq_true hwt]
 simp
end Go.Proofs.YtjoapiafpahihabGreat
namespace Go.Proofs.YtjoapiafpahihabGreat
set_option linter.unusedVariables false
theorem zoe:∀(n:Nat) (f:Nat->Nat),(∀s,s<n->f s<n)->(∀s s',s<n->s'<n->f s=f s'->s=s')->∀k,k<n->∃s,s<n/\f s=k:=by
 intro n
 induction n with
 | zero=>intro f _ _ k hk;omega
 | succ n ih =>
   intro f hf hi k hk
   have hg:=ih (fun s=>if f s=n then f n else f s) (fun s hs=>by
    show (if f s=n then f n else f s)<n
    split
    ·next e =>
     by_cases e2:f n=n
     ·have:=hi s n (by omega) (by omega) (by omega);omega
     ·have:=hf n (by omega);omega
    ·next e=>have:=hf s (by omega);omega) (fun s s' hs hs' e=>by
    have e':(if f s=n then f n else f s)=(if f s'=n then f n else f s'):=e
    split at e'
    ·next e1 =>
     split at e'
     ·next e2=>exact hi s s' (by omega) (by omega) (by omega)
     ·next e2=>have:=hi n s' (by omega) (by omega) e';omega
    ·next e1 =>
     split at e'
     ·next e2=>have:=hi s n (by omega) (by omega) e';omega
     ·next e2=>exact hi s s' (by omega) (by omega) e')
   by_cases e:k=f n
   ·exact⟨n,by omega,e.symm⟩
   ·by_cases e2:k=n
    ·have h3:f n<n:=by have:=hf n (by omega);omega
     obtain⟨s,hs,h4⟩:=hg (f n) h3
     have h4':(if f s=n then f n else f s)=f n:=h4
     split at h4'
     ·next e3=>exact⟨s,by omega,by omega⟩
     ·next e3=>have:=hi s n (by omega) (by omega) h4';omega
    ·obtain⟨s,hs,h4⟩:=hg k (by omega)
     have h4':(if f s=n then f n else f s)=k:=h4
     split at h4'
     ·exact absurd h4'.symm e
     ·exact⟨s,by omega,h4'⟩
section
variable (t:Tg) (K:Kn) (O:List Int)
def yt (s:Nat):Nat:=(nth O s).toNat
def opJ (s:Nat):Kop:=zq K.ops (yt O s)
def zX (s:Nat):Int:=(opJ K O s).sl+K.pc*(opJ K O s).sg
def zA (s:Nat):Int:=zX K O s+zr t (opJ K O s).o
def zm (s:Nat):Int:=(opJ K O s).d+(opJ K O s).sg
end
structure yQ (L:Lp) (t:Tg) (K:Kn) (O:List Int):Prop where
 may:zx L=true
 mayt:zp t=true
 mayk:Z6 t K L.logs=true
 nops:K.ops.length=L.body.length
 ord:∀s,s<L.body.length->yt O s<L.body.length
 inj:∀s s',s<L.body.length->s'<L.body.length->yt O s=yt O s'->s=s'
 same:∀s,s<L.body.length->(opJ K O s).o=(z6 L.body s).o/\(opJ K O s).ar=(z6 L.body s).ar/\(opJ K O s).sp=(z6 L.body s).sp/\(opJ K O s).pl=(z6 L.body s).pl/\(opJ K O s).nn=(z6 L.body s).nn
 edge:∀e∈z8 L t,zX K O e.fr.toNat+e.wt<=zX K O e.to.toNat+e.bk*K.pc
 nameA:∀s,s<L.body.length->(z6 L.body s).o=4\/10<(z6 L.body s).o->(opJ K O s).a=(zm K O (z6 L.body s).xa.toNat - (z6 L.body s).xb - (opJ K O s).sg) % t.r
 nameB:∀s,s<L.body.length->10<(z6 L.body s).o->(opJ K O s).b=(zm K O (z6 L.body s).ya.toNat - (z6 L.body s).yb - (opJ K O s).sg) % t.r
 kept:∀s,s<L.body.length->∀r∈yr (z6 L.body s),∀m,m<L.body.length->∀j:Int,¬(m=r.1.toNat/\j=0)->(zm K O m+j - zm K O r.1.toNat) % t.r=0 ->
  (zA t K O m+j*K.pc<zA t K O r.1.toNat\/zX K O s+r.2*K.pc<zA t K O m+j*K.pc)/\(0<r.2->0<j->zX K O s+r.2*K.pc<zA t K O m+j*K.pc)
 told:∀a∈L.outs,∀m,m<L.body.length->∀j:Int,j<=0->¬(m=a.toNat/\j=0)->(zm K O m+j - zm K O a.toNat) % t.r=0->zA t K O m+j*K.pc<zA t K O a.toNat
def zbc (L:Lp) (t:Tg) (K:Kn) (O:List Int) (B:List (List Int)) (R:List Int):Prop :=
 ∀s,s<L.body.length->∀r∈yr (z6 L.body s),∀q:Int,1<=q->q<=r.2->nth R ((zm K O r.1.toNat - q) % t.r).toNat=nth (VC B r.1.toNat) (q - 1).toNat
variable {L:Lp} {t:Tg} {K:Kn} {O:List Int} {B M:List (List Int)} {R:List Int} {turns:Nat}
theorem yQ.ok (h:yQ L t K O) (h1:1<=turns):KOk t K turns:=by
 have hk:=h.mayk
 unfold Z6 at hk
 simp only [Bool.and_eq_true] at hk
 obtain⟨⟨⟨⟨hk1,hk2⟩,hk3⟩,hk4⟩,hk5⟩:=hk
 have h2:=zo.1 hk2
 have h3:=zo.1 hk3
 obtain⟨u1,u2,u3,hr1,-⟩:=yi hk1
 refine⟨h2.1,h3.1,hr1,fun k hk=>?_,fun o=>?_,h1⟩
 ·have h6:=zl hk5 k hk
  unfold yF ZK at h6
  simp only [Bool.and_eq_true] at h6
  have h7:=zo.1 h6.1.1.1.1.1
  have h8:=zo.1 h6.1.1.1.1.2
  omega
 ·have u1:=zT u1
  have u2:=zT u2
  have u3:=zT u3
  unfold xA
  split
  ·omega
  ·split <;> omega
theorem yQ.cyc (h:yQ L t K O) (s i:Nat):yG K (yt O s) i=zX K O s+i*K.pc:=by
 unfold yG zX opJ
 rw [Int.mul_add,Int.mul_comm K.pc (i:Int)]
 omega
theorem yQ.wait (h:yQ L t K O) (o:Int):zr t o=xA t (zC o):=by unfold zr;rw [if_pos h.mayt]
theorem yQ.due (h:yQ L t K O) (s i:Nat):Zy t K (yt O s) i=zA t K O s+i*K.pc:=by
 unfold Zy zA
 rw [h.cyc,h.wait]
 show _+xA t (zC (opJ K O s).o)=_
 omega
theorem yQ.place (h:yQ L t K O) (s i:Nat):ZF t K (yt O s) i=(zm K O s+i) % t.r:=by
 unfold ZF zm opJ
 rw [Int.add_assoc]
theorem yQ.hit (h:yQ L t K O) {k:Nat} (hk:k<K.ops.length):∃s,s<L.body.length/\yt O s=k:=zoe _ _ h.ord h.inj k (by rw [<-h.nops];exact hk)
theorem yQ.lt (h:yQ L t K O) {s:Nat} (hs:s<L.body.length):yt O s<K.ops.length:=by rw [h.nops];exact h.ord s hs
theorem zca {r x y:Int} (hr:1<=r) (h:(x % r).toNat=(y % r).toNat):(x - y) % r=0:=by
 have h1:=Int.emod_nonneg x (by omega:r≠0)
 have h2:=Int.emod_nonneg y (by omega:r≠0)
 exact Int.emod_eq_emod_iff_emod_sub_eq_zero.1 (by omega)
theorem yQ.ref (h:yQ L t K O) (h1:1<=turns) (he:zbc L t K O B R) {s i:Nat} (hs:s<L.body.length) (hi:i<turns) {xa xb:Int} (hx:(xa,xb)∈yr (z6 L.body s)) (hr0:0<=xa) (hr1:xa<L.body.length) (hr2:0<=xb) (hr3:xb=0->xa<s)
  (hed:zA t K O xa.toNat<=zX K O s+xb*K.pc)
  {A:Int} (hA:A=(zm K O xa.toNat - xb - (opJ K O s).sg) % t.r)
  (ih:∀s' i',s'<L.body.length->i'<turns->yG K (yt O s') i'<yG K (yt O s) i->UJ t K L.logs turns (Ym R M) (yt O s') i'=zgx L B M i' s') :
  zk0 (UW t K L.logs turns (Ym R M) (yG K (yt O s) i).toNat) t.r A (yG K (yt O s) i / K.pc)=zjz B (atS L B M i s).val i xa xb:=by
 have ok:=h.ok h1
 have hr:=ok.r
 have hpc:=ok.pc
 obtain⟨hc0,hc1,-⟩:=yO ok (h.lt hs) i
 have hxn:xa.toNat<L.body.length:=by omega
 have ereg:(A+yG K (yt O s) i / K.pc) % t.r=(zm K O xa.toNat+((i:Int) - xb)) % t.r:=by
  rw [hc1,hA,Int.emod_add_emod]
  congr 1
  unfold opJ
  omega
 unfold zk0
 rw [ereg]
 unfold zjz
 have hk:=h.kept s hs _ hx
 dsimp only at hk
 by_cases hb:xb<=(i:Int)
 ·rw [if_pos hb]
  have hib:((i:Int) - xb).toNat<turns:=by omega
  have eib:((((i:Int) - xb).toNat:Nat):Int)=(i:Int) - xb:=by omega
  have hdue:Zy t K (yt O xa.toNat) ((i:Int) - xb).toNat<=yG K (yt O s) i:=by
   rw [h.due,h.cyc,eib,Int.sub_mul]
   omega
  have hah:yj ((i:Int) - xb).toNat xa.toNat i s:=by
   unfold yj
   by_cases e:xb=0
   ·have:=hr3 e;omega
   ·omega
  have hval:=zo5 (L:=L) (B:=B) (M:=M) i s (by omega) ((i:Int) - xb).toNat xa.toNat hxn hah
  rw [hval,<-ih xa.toNat ((i:Int) - xb).toNat hxn hib (by have:=ok.wt (zq K.ops (yt O xa.toNat)).o;unfold Zy at hdue;omega)]
  have epl:ZF t K (yt O xa.toNat) ((i:Int) - xb).toNat=(zm K O xa.toNat+((i:Int) - xb)) % t.r:=by rw [h.place,eib]
  rw [<-epl]
  refine zdz ok rfl (h.lt hxn) hib _ (by omega) fun k' i' hk' hi' g1 g2 g3=>?_
  obtain⟨m,hm,rfl⟩:=h.hit hk'
  by_cases e:m=xa.toNat/\(i':Int) - ((i:Int) - xb)=0
  ·obtain⟨rfl,e2⟩:=e
   exact⟨rfl,by omega⟩
  ·exfalso
   rw [h.place,epl] at g3
   have g4:=zca hr g3
   have g5:=(hk m hm ((i':Int) - ((i:Int) - xb)) e (by rw [<-g4];congr 1;omega)).1
   rw [h.due,h.due,eib] at g1
   rw [h.due] at g2
   have g6:(i':Int)*K.pc<=zX K O s+i*K.pc - zA t K O m:=by rw [<-h.cyc];omega
   rw [Int.sub_mul,Int.sub_mul] at g5
   rw [Int.sub_mul] at g1
   omega
 ·rw [if_neg hb]
  have hq:=he s hs _ hx (xb - i) (by omega) (by show xb - (i:Int)<=xb;omega)
  dsimp only at hq
  rw [show xb - (i:Int) - 1=xb - i - 1 by omega] at hq
  rw [<-hq,show zm K O xa.toNat - (xb - (i:Int))=zm K O xa.toNat+((i:Int) - xb) by omega]
  refine zk1 ok rfl _ _ fun k' i' hk' hi' g2 g3=>?_
  obtain⟨m,hm,rfl⟩:=h.hit hk'
  rw [h.place] at g3
  have g4:=zca hr g3
  have g5:=(hk m hm ((i':Int) - ((i:Int) - xb)) (fun e=>by omega) (by rw [<-g4];congr 1;omega)).2 (by omega) (by omega)
  rw [h.due] at g2
  have g6:(i':Int)*K.pc<=zX K O s+i*K.pc - zA t K O m:=by rw [<-h.cyc];omega
  rw [Int.sub_mul,Int.sub_mul] at g5
  omega
end Go.Proofs.YtjoapiafpahihabGreat
namespace Go.Proofs.YtjoapiafpahihabGreat
set_option linter.unusedVariables false
variable {L:Lp} {t:Tg} {K:Kn} {O:List Int} {B M:List (List Int)} {R:List Int} {turns:Nat}
theorem yQ.order (h:yQ L t K O) (h1:1<=turns) {i x i' y:Nat} (hx:x<L.body.length) (hy:y<L.body.length) (hi:i<=200) (hi':i'<=200) (hd:zU (z6 L.body x) (z6 L.body y)=true) (ha:yj i x i' y) (hw:xe L i (z6 L.body x)=xe L i' (z6 L.body y)) :
  yG K (yt O x) i+xm (z6 L.body x)<=yG K (yt O y) i':=by
 obtain⟨bk,wt,h2,h3,h4⟩:=zme t h.may hx hy hi hi' hd ha hw
 have h5:=h.edge _ h4
 have hpc:=(h.ok h1).pc
 simp only [Int.toNat_natCast] at h5
 rw [h.cyc,h.cyc,<-h3]
 have h6:((i+bk:Nat):Int)*K.pc<=(i':Int)*K.pc:=Int.mul_le_mul_of_nonneg_right (by omega) (by omega)
 rw [Int.natCast_add,Int.add_mul] at h6
 omega
theorem yQ.word (h:yQ L t K O) {s:Nat} (hs:s<L.body.length) (i:Nat):zev K L.logs (yt O s) i=xe L i (z6 L.body s):=by
 obtain⟨eo,ear,esp,epl,enn⟩:=h.same s hs
 unfold opJ at eo ear esp epl enn
 unfold zev xe
 rw [esp,epl,ear]
theorem yQ.sto (h:yQ L t K O) {s a b:Nat} (hs:s<L.body.length) (i:Nat):zez K L.logs a b (yt O s) i↔Xi L a b i s:=by
 unfold zez Xi
 rw [h.word hs]
 obtain⟨eo,ear,-⟩:=h.same s hs
 unfold opJ at eo ear
 rw [eo,ear]
theorem Vt (i k i' k':Nat):yj i k i' k'\/(i=i'/\k=k')\/yj i' k' i k:=by unfold yj;omega
theorem zpo {a b i x i' y:Nat} (h1:Xi L a b i x) (h2:Xi L a b i' y) (hm:zx L=true) (hx:x<L.body.length) (hy:y<L.body.length):zU (z6 L.body x) (z6 L.body y)=true/\xe L i (z6 L.body x)=xe L i' (z6 L.body y):=by
 have p1:=Zc hm hx (.inr h1.1)
 have p2:=Zc hm hy (.inr h2.1)
 refine⟨?_,h1.2.2.trans h2.2.2.symm⟩
 unfold zU yA
 have e1:=h1.1
 have e2:=h2.1
 have e3:(z6 L.body x).ar=(z6 L.body y).ar:=by have:=h1.2.1;have:=h2.2.1;omega
 rw [e1,e2,e3]
 simp
theorem yQ.stores (h:yQ L t K O) (h1:1<=turns) {a b i x i' y:Nat} (hx:x<L.body.length) (hy:y<L.body.length) (hi:i<=200) (hi':i'<=200) (s1:Xi L a b i x) (s2:Xi L a b i' y) (ha:yj i x i' y):yG K (yt O x) i<yG K (yt O y) i':=by
 obtain⟨hd,hw⟩:=zpo s1 s2 h.may hx hy
 have:=h.order h1 hx hy hi hi' hd ha hw
 unfold xm at this
 rw [if_pos s1.1] at this
 omega
theorem yQ.load (h:yQ L t K O) (h1:1<=turns) (h2:turns<=200) {s i:Nat} (hs:s<L.body.length) (hi:i<turns) (ho:(z6 L.body s).o=3)
  (ih:∀s' i',s'<L.body.length->i'<turns->yG K (yt O s') i'<yG K (yt O s) i->UJ t K L.logs turns (Ym R M) (yt O s') i'=zgx L B M i' s') :
  (xD t K L.logs turns (Ym R M) (yG K (yt O s) i).toNat).m (z6 L.body s).ar.toNat (xe L i (z6 L.body s))=(atS L B M i s).mem (z6 L.body s).ar.toNat (xe L i (z6 L.body s)):=by
 have ok:=h.ok h1
 obtain⟨hc0,-,-⟩:=yO ok (h.lt hs) i
 have pL:=Zc h.may hs (.inl ho)
 have hmem:∀i' m,m<L.body.length->Xi L (z6 L.body s).ar.toNat (xe L i (z6 L.body s)) i' m->zU (z6 L.body s) (z6 L.body m)=true/\zU (z6 L.body m) (z6 L.body s)=true:=by
  intro i' m hm hsto
  have p2:=Zc h.may hm (.inr hsto.1)
  have e2:=hsto.1
  have e3:(z6 L.body m).ar=(z6 L.body s).ar:=by have:=hsto.2.1;omega
  unfold zU yA
  rw [ho,e2,e3]
  simp
 have later:∀i' m,m<L.body.length->i'<turns->Xi L (z6 L.body s).ar.toNat (xe L i (z6 L.body s)) i' m->¬yj i' m i s->yG K (yt O s) i<=yG K (yt O m) i':=by
  intro i' m hm hi' hsto hna
  rcases Vt i' m i s with e | ⟨-,e⟩ | e
  ·exact absurd e hna
  ·exfalso
   have:=hsto.1
   rw [e,ho] at this
   omega
  ·have:=h.order h1 hs hm (by omega) (by omega) (hmem i' m hm hsto).1 e hsto.2.2.symm
   unfold xm at this
   rw [if_neg (by omega)] at this
   omega
 rcases zoz L (z6 L.body s).ar.toNat (xe L i (z6 L.body s)) i s (by omega) with hno | ⟨i0,k0,hk0,hs0,ha0,hl0⟩
 ·rw [zgc i s (by omega) hno,zj9 ok _ fun k' i' hk' hi' hsto=>?_]
  ·rfl
  ·obtain⟨m,hm,rfl⟩:=h.hit hk'
   have hsto':=(h.sto hm i').1 hsto
   have:=later i' m hm hi' hsto' fun e=>hno i' m hm e hsto'
   omega
 ·have hi0:i0<turns:=by unfold yj at ha0;omega
  have hlt:yG K (yt O k0) i0<yG K (yt O s) i:=by
   have:=h.order h1 hk0 hs (by omega) (by omega) (hmem i0 k0 hk0 hs0).2 ha0 hs0.2.2
   unfold xm at this
   rw [if_pos hs0.1] at this
   omega
  rw [zka hk0 hs0 i s (by omega) ha0 hl0,<-ih k0 i0 hk0 hi0 hlt]
  refine zmf ok (h.lt hk0) hi0 ((h.sto hk0 i0).2 hs0) _ (by omega) fun k' i' hk' hi' hsto g1 g2=>?_
  obtain⟨m,hm,rfl⟩:=h.hit hk'
  have hsto':=(h.sto hm i').1 hsto
  by_cases hah:yj i' m i s
  ·rcases Vt i0 k0 i' m with e | ⟨e1,e2⟩ | e
   ·exact absurd hah (hl0 i' m hm hsto' e)
   ·subst e1;subst e2;exact⟨rfl,rfl⟩
   ·have:=h.stores h1 hm hk0 (by omega) (by omega) hsto' hs0 e
    omega
  ·have:=later i' m hm hi' hsto' hah
   omega
theorem zj5 (h:yQ L t K O) {s:Nat} (hs:s<L.body.length) {xa xb:Int} (hx:(xa,xb)∈yr (z6 L.body s)) (hr0:0<=xa) (hr1:xa<L.body.length) (hr2:0<=xb) (hr3:xb<=3):zA t K O xa.toNat<=zX K O s+xb*K.pc:=by
 have hn:xa.toNat<L.body.length:=by omega
 obtain⟨eo,-⟩:=h.same xa.toNat hn
 have hw:∃wt:Nat,(wt:Int)=zr t (z6 L.body xa.toNat).o/\wt<7:=by
  have h1:=(h.ok (turns:=1) (Nat.le_refl _)).wt (z6 L.body xa.toNat).o
  rw [h.wait]
  exact⟨(xA t (zC (z6 L.body xa.toNat).o)).toNat,by omega,by omega⟩
 obtain⟨wt,hwt,hw7⟩:=hw
 have hin:isD L t xa.toNat s xb.toNat wt=true:=by
  unfold isD
  rw [decide_eq_true hwt]
  have hl:Vy (z6 L.body s) xa.toNat xb.toNat=true:=by
   unfold Vy
   obtain⟨j,hj,ej⟩:=List.mem_iff_getElem.1 hx
   refine yR hj ?_
   unfold xI
   have e:zi (yr (z6 L.body s)) j=(xa,xb):=by unfold zi;rw [List.getD,List.getElem?_eq_getElem hj,ej];rfl
   rw [e,decide_eq_true (show xa=(xa.toNat:Int) by omega),decide_eq_true (show xb=(xb.toNat:Int) by omega)]
   rfl
  rw [hl];rfl
 have h5:=h.edge _ (zhe hin hn hs (by omega) hw7)
 simp only [Int.toNat_natCast] at h5
 unfold zA
 rw [eo,<-hwt]
 rw [show ((xb.toNat:Nat):Int)=xb by omega] at h5
 exact h5
theorem yQ.val (h:yQ L t K O) (h1:1<=turns) (h2:turns<=200) (he:zbc L t K O B R):∀(N:Nat) (s i:Nat),s<L.body.length->i<turns->yG K (yt O s) i=N->UJ t K L.logs turns (Ym R M) (yt O s) i=zgx L B M i s:=by
 intro N
 induction N using Nat.strongRecOn with
 | _ N ihN =>
   intro s i hs hi eN
   have ok:=h.ok h1
   have ih:∀s' i',s'<L.body.length->i'<turns->yG K (yt O s') i'<yG K (yt O s) i->UJ t K L.logs turns (Ym R M) (yt O s') i'=zgx L B M i' s':=by
    intro s' i' hs' hi' hlt
    have:=(yO ok (h.lt hs') i').1
    exact ihN (yG K (yt O s') i').toNat (by omega) s' i' hs' hi' (by omega)
   obtain⟨eo,ear,esp,epl,enn⟩:=h.same s hs
   obtain⟨-,-,-,-,-,-,h7⟩:=zj h.may
   have hst:=zea (zl h7 s hs)
   obtain⟨hc0,hc1,-⟩:=yO ok (h.lt hs) i
   have href:∀xa xb:Int,(xa,xb)∈yr (z6 L.body s)->yg L.body.length s xa xb=true->∀A,A=(zm K O xa.toNat - xb - (opJ K O s).sg) % t.r->zk0 (UW t K L.logs turns (Ym R M) (yG K (yt O s) i).toNat) t.r A (yG K (yt O s) i / K.pc)=zjz B (atS L B M i s).val i xa xb:=by
    intro xa xb hx hr A hA
    unfold yg at hr
    rw [Bool.and_eq_true] at hr
    have r1:=zo.1 hr.1
    have r2:=zo.1 hr.2
    have r3:xa<L.body.length:=by split at r2 <;> omega
    exact h.ref h1 he hs hi hx r2.1 r3 r1.1 (fun e=>by rw [if_pos e] at r2;omega) (zj5 h hs hx r2.1 r3 r1.1 r1.2) hA ih
   unfold UJ zgw zgx comes
   show (if (opJ K O s).o=1 then (opJ K O s).nn else if (opJ K O s).o=2 then yG K (yt O s) i / K.pc - (opJ K O s).sg else if (opJ K O s).o=3 then _ else if (opJ K O s).o=4 then _ else _)=_
   rw [eo,enn]
   rcases hst with o | o | ⟨o,-⟩ | ⟨o,-,-,hr⟩ | ⟨o,o2,hr,hr2⟩
   ·rw [if_pos o,if_pos o]
   ·rw [if_neg (by omega),if_pos o,if_neg (by omega),if_pos o,hc1]
    show (opJ K O s).sg+(i:Int) - (opJ K O s).sg=_
    omega
   ·rw [if_neg (by omega),if_neg (by omega),if_pos o,if_neg (by omega),if_neg (by omega),if_pos o,V1 ok (h.lt hs),h.word hs]
    show (xD _ _ _ _ _ _).m (opJ K O s).ar.toNat _=_
    rw [ear]
    exact h.load h1 h2 hs hi o ih
   ·rw [if_neg (by omega),if_neg (by omega),if_neg (by omega),if_pos o,if_neg (by omega),if_neg (by omega),if_neg (by omega),if_pos o]
    exact href _ _ (by unfold yr;rw [if_pos o];simp) hr _ (h.nameA s hs (.inl o))
   ·rw [if_neg (by omega),if_neg (by omega),if_neg (by omega),if_neg (by omega),if_neg (by omega),if_neg (by omega),if_neg (by omega),if_neg (by omega)]
    have hu:yr (z6 L.body s)=[((z6 L.body s).xa,(z6 L.body s).xb),((z6 L.body s).ya,(z6 L.body s).yb)]:=by unfold yr;rw [if_neg (by omega),if_pos (by omega)]
    have g1:=href _ _ (by rw [hu];simp) hr _ (h.nameA s hs (.inr (by omega)))
    have g2:=href _ _ (by rw [hu];simp) hr2 _ (h.nameB s hs (by omega))
    unfold opJ at g1 g2 eo
    rw [g1,g2,eo]
theorem zm3 (ok:KOk t K turns):0<=Xe K turns:=by
 have:=ok.pc
 have:=ok.st
 have:=ok.tu
 exact Int.mul_nonneg (by omega) (by omega)
theorem yQ.words (h:yQ L t K O) (h2:turns<=200) (he:zbc L t K O B R) (a b:Nat):(zq2 t K L.logs turns R M).m a b=(zpn L B turns (zgf M)).mem a b:=by
 unfold zq2
 by_cases h0:turns=0
 ·subst h0;rfl
 rw [if_neg (by omega)]
 have h1:1<=turns:=by omega
 have ok:=h.ok h1
 have hp:=zm3 ok
 rw [zqd]
 rcases zoz L a b turns 0 (Nat.zero_le _) with hno | ⟨i0,k0,hk0,hs0,ha0,hl0⟩
 ·rw [zgc turns 0 (Nat.zero_le _) hno,zj9 ok _ fun k' i' hk' hi' hsto=>?_]
  ·rfl
  ·obtain⟨m,hm,rfl⟩:=h.hit hk'
   exact absurd ((h.sto hm i').1 hsto) (hno i' m hm (.inl hi'))
 ·have hi0:i0<turns:=by unfold yj at ha0;omega
  have hc:=V7 ok (h.lt hk0) hi0
  have hc0:=(yO ok (h.lt hk0) i0).1
  rw [zka hk0 hs0 turns 0 (Nat.zero_le _) ha0 hl0,<-h.val (M:=M) h1 h2 he (yG K (yt O k0) i0).toNat k0 i0 hk0 hi0 (by omega)]
  refine zmf ok (h.lt hk0) hi0 ((h.sto hk0 i0).2 hs0) _ (by omega) fun k' i' hk' hi' hsto g1 g2=>?_
  obtain⟨m,hm,rfl⟩:=h.hit hk'
  have hsto':=(h.sto hm i').1 hsto
  rcases Vt i0 k0 i' m with e | ⟨e1,e2⟩ | e
  ·exact absurd (.inl hi') (hl0 i' m hm hsto' e)
  ·subst e1;subst e2;exact⟨rfl,rfl⟩
  ·have:=h.stores h1 hm hk0 (by omega) (by omega) hsto' hs0 e
   omega
theorem yQ.outs (h:yQ L t K O) (h1:1<=turns) (h2:turns<=200) (he:zbc L t K O B R) {a:Int} (ha:a∈L.outs) (hn:a.toNat<L.body.length):(zq2 t K L.logs turns R M).f ((zm K O a.toNat+turns - 1) % t.r).toNat=(zpn L B turns (zgf M)).val (turns - 1) a.toNat:=by
 unfold zq2
 rw [if_neg (by omega)]
 have ok:=h.ok h1
 have hp:=zm3 ok
 have hr:=ok.r
 have ht:turns - 1<turns:=by omega
 have et:((turns - 1:Nat):Int)=(turns:Int) - 1:=by omega
 have hc:=V7 ok (h.lt hn) ht
 have hc0:=(yO ok (h.lt hn) (turns - 1)).1
 have hw:=ok.wt (zq K.ops (yt O a.toNat)).o
 rw [show (Xe K turns+7).toNat=(Xe K turns).toNat+6+1 by omega,zq3,zqd,zo5 turns 0 (Nat.zero_le _) (turns - 1) a.toNat hn (.inl ht),<-h.val (M:=M) h1 h2 he (yG K (yt O a.toNat) (turns - 1)).toNat a.toNat (turns - 1) hn ht (by omega)]
 have epl:ZF t K (yt O a.toNat) (turns - 1)=(zm K O a.toNat+turns - 1) % t.r:=by rw [h.place,et];congr 1;omega
 rw [<-epl]
 refine zdz ok rfl (h.lt hn) ht _ (by unfold Zy;omega) fun k' i' hk' hi' g1 g2 g3=>?_
 obtain⟨m,hm,rfl⟩:=h.hit hk'
 by_cases e:m=a.toNat/\(i':Int) - ((turns:Int) - 1)=0
 ·obtain⟨rfl,e2⟩:=e
  exact⟨rfl,by omega⟩
 ·exfalso
  rw [h.place,epl] at g3
  have g4:=zca hr g3
  have g5:=h.told a ha m hm ((i':Int) - ((turns:Int) - 1)) (by omega) e (by rw [<-g4];congr 1;omega)
  rw [h.due,h.due,et] at g1
  rw [Int.sub_mul] at g5
  omega
end Go.Proofs.YtjoapiafpahihabGreat
namespace Go.Proofs.YtjoapiafpahihabGreat
set_option linter.unusedVariables false
def xT (len:Nat->Nat):Nat->Nat
 | 0=>0
 | s+1=>xT len s+len s
def zaa (len:Nat->Nat) (g:Nat->Nat->Int):Nat->List Int
 | 0=>[]
 | s+1=>zaa len g s++(List.range (len s)).map (g s)
theorem Uf (len:Nat->Nat) (g:Nat->Nat->Int):∀k,(zaa len g k).length=xT len k:=by
 intro k
 induction k with
 | zero=>rfl
 | succ k ih =>
   show (zaa len g k++(List.range (len k)).map (g k)).length=xT len k+len k
   rw [List.length_append,ih];simp
theorem zn0 (len:Nat->Nat):∀k s,s<k->xT len s+len s<=xT len k:=by
 intro k
 induction k with
 | zero=>intro s h;omega
 | succ k ih =>
   intro s h
   show _<=xT len k+len k
   by_cases e:s=k
   ·subst e;exact Nat.le_refl _
   ·have:=ih s (by omega);omega
theorem zbv (len:Nat->Nat) (g:Nat->Nat->Int):∀k s q,s<k->q<len s->nth (zaa len g k) (xT len s+q)=g s q:=by
 intro k
 induction k with
 | zero=>intro s q h;omega
 | succ k ih =>
   intro s q h hq
   show nth (zaa len g k++(List.range (len k)).map (g k)) _=_
   have hl:=Uf len g k
   unfold nth
   by_cases e:s=k
   ·subst e
    rw [List.getD,List.getElem?_append_right (by omega),hl,show xT len s+q - xT len s=q by omega,List.getElem?_map,List.getElem?_range hq]
    rfl
   ·have h2:=zn0 len k s (by omega)
    rw [List.getD,List.getElem?_append_left (by omega)]
    exact ih s q (by omega) hq
def zsm (F V:List Int):Nat->Nat->Int
 | 0=>fun _=>0
 | k+1=>zn1 (zsm F V k) (nth F k).toNat (nth V k)
theorem zws {F V:List Int}:∀m,(∀i j,i<j->j<m->(nth F i).toNat≠(nth F j).toNat)->∀k,k<m->zsm F V m (nth F k).toNat=nth V k:=by
 intro m
 induction m with
 | zero=>intro _ k h;omega
 | succ m ih =>
   intro hd k hk
   show zn1 (zsm F V m) (nth F m).toNat (nth V m) (nth F k).toNat=_
   unfold zn1
   by_cases e:k=m
   ·subst e;rw [if_pos rfl]
   ·rw [if_neg (hd k m (by omega) (by omega))]
    exact ih (fun i j h1 h2=>hd i j h1 (by omega)) k (by omega)
def Z1 (u:List (Int × Int)) (a:Int) (f:Int):Nat->Int
 | 0=>f
 | k+1=>if (zi u k).1=a/\Z1 u a f k<(zi u k).2 then (zi u k).2 else Z1 u a f k
def XF (L:Lp) (a:Int):Nat->Int
 | 0=>0
 | k+1=>Z1 (yr (z6 L.body k)) a (XF L a k) (yr (z6 L.body k)).length
def Xl (L:Lp) (a:Int):Int:=XF L a L.body.length
theorem zbr (u:List (Int × Int)) (a f:Int):∀k,f<=Z1 u a f k:=by
 intro k
 induction k with
 | zero=>exact Int.le_refl _
 | succ k ih =>
   show f<=(if (zi u k).1=a/\Z1 u a f k<(zi u k).2 then (zi u k).2 else Z1 u a f k)
   split <;> omega
theorem zor (u:List (Int × Int)) (a f:Int):∀k i,i<k->(zi u i).1=a->(zi u i).2<=Z1 u a f k:=by
 intro k
 induction k with
 | zero=>intro i h;omega
 | succ k ih =>
   intro i hi e
   show _<=(if (zi u k).1=a/\Z1 u a f k<(zi u k).2 then (zi u k).2 else Z1 u a f k)
   by_cases e2:i=k
   ·subst e2;split <;> omega
   ·have:=ih i (by omega) e
    split <;> omega
theorem zoq (L:Lp) (a:Int):∀k s,s<k->∀i,i<(yr (z6 L.body s)).length->(zi (yr (z6 L.body s)) i).1=a->(zi (yr (z6 L.body s)) i).2<=XF L a k:=by
 intro k
 induction k with
 | zero=>intro s h;omega
 | succ k ih =>
   intro s hs i hi e
   show _<=Z1 (yr (z6 L.body k)) a (XF L a k) (yr (z6 L.body k)).length
   by_cases e2:s=k
   ·subst e2;exact zor _ _ _ _ i hi e
   ·exact Int.le_trans (ih s (by omega) i hi e) (zbr _ _ _ _)
theorem zd0 (u:List (Int × Int)) (a f c:Int) (hf:f<=c) (hu:∀i,i<u.length->(zi u i).2<=c):∀k,k<=u.length->Z1 u a f k<=c:=by
 intro k
 induction k with
 | zero=>exact fun _=>hf
 | succ k ih =>
   intro hk
   show (if (zi u k).1=a/\Z1 u a f k<(zi u k).2 then (zi u k).2 else Z1 u a f k)<=c
   have:=ih (by omega)
   have:=hu k (by omega)
   split <;> omega
theorem zv3 {u:List (Int × Int)} {r:Int × Int} (h:r∈u):∃i,i<u.length/\zi u i=r:=by
 obtain⟨i,hi,e⟩:=List.mem_iff_getElem.1 h
 exact⟨i,hi,by unfold zi;rw [List.getD,List.getElem?_eq_getElem hi,e];rfl⟩
theorem xv {u:List (Int × Int)} {i:Nat} (h:i<u.length):zi u i∈u:=by
 unfold zi
 rw [List.getD,List.getElem?_eq_getElem h]
 exact List.getElem_mem _
theorem xK {L:Lp} (hm:zx L=true) {s:Nat} (hs:s<L.body.length):∀r∈yr (z6 L.body s),0<=r.1/\r.1<L.body.length/\0<=r.2/\r.2<=3:=by
 obtain⟨-,-,-,-,-,-,h7⟩:=zj hm
 have hst:=zea (zl h7 s hs)
 intro r hr
 unfold yr at hr
 rcases hst with o | o | ⟨o,-⟩ | ⟨o,-,-,h⟩ | ⟨o,o2,h,h2⟩
 ·rw [if_neg (by omega),if_neg (by omega)] at hr;cases hr
 ·rw [if_neg (by omega),if_neg (by omega)] at hr;cases hr
 ·rw [if_neg (by omega),if_neg (by omega)] at hr;cases hr
 ·rw [if_pos o,List.mem_singleton] at hr
  subst hr
  exact Vn h (by omega)
 ·rw [if_neg (by omega),if_pos (by omega),List.mem_cons,List.mem_singleton] at hr
  rcases hr with rfl | rfl
  ·exact Vn h (by omega)
  ·exact Vn h2 (by omega)
theorem XG {L:Lp} (hm:zx L=true) (a:Int):∀k,k<=L.body.length->XF L a k<=3:=by
 intro k
 induction k with
 | zero=>intro _;show (0:Int)<=3;omega
 | succ k ih=>intro hk;exact zd0 _ _ _ _ (ih (by omega)) (fun i hi=>(xK hm (by omega) _ (xv hi)).2.2.2) _ (Nat.le_refl _)
theorem zbs (L:Lp) (a:Int):∀k,0<=XF L a k:=by
 intro k
 induction k with
 | zero=>exact Int.le_refl _
 | succ k ih=>exact Int.le_trans ih (zbr _ _ _ _)
section
variable (L:Lp) (t:Tg) (K:Kn) (O:List Int)
def Z8 (s:Nat):Bool:=inR (nth O s) 0 (L.body.length - 1) && zh (fun i=>!decide (nth O i=nth O s)) s
def YO (s:Nat):Bool:=decide ((opJ K O s).o=(z6 L.body s).o) && decide ((opJ K O s).ar=(z6 L.body s).ar) && decide ((opJ K O s).sp=(z6 L.body s).sp) && decide ((opJ K O s).pl=(z6 L.body s).pl) && decide ((opJ K O s).nn=(z6 L.body s).nn)
def xH:Bool:=zx L && zp t && Z6 t K L.logs && decide (K.ops.length=L.body.length) && decide (O.length=L.body.length) && zh (fun s=>Z8 L O s && YO L K O s) L.body.length
def Yy (e:Ed):Bool:=decide (zX K O e.fr.toNat+e.wt<=zX K O e.to.toNat+e.bk*K.pc)
def zra (s i:Nat):Bool:=decide ((if i=1 then (opJ K O s).b else (opJ K O s).a)=(zm K O (zi (yr (z6 L.body s)) i).1.toNat - (zi (yr (z6 L.body s)) i).2 - (opJ K O s).sg) % t.r)
def Vz (a:Nat) (bk u:Int) (m:Nat) (j:Int):Bool:=(decide (zA t K O a<=zA t K O m+j*K.pc) && decide (zA t K O m+j*K.pc<=u)) || (decide (0<bk) && decide (0<j) && decide (zA t K O m+j*K.pc<=u))
def Uh (a:Nat) (bk u:Int) (m:Nat) (j:Int):Bool:=!Vz t K O a bk u m j || (decide (m=a) && decide (j=0)) || !decide ((zm K O m+j - zm K O a) % t.r=0)
def Ui (a:Nat) (bk u:Int):Bool:=zh (fun m=>zh (fun j=>Uh t K O a bk u m ((j:Int) - 4100)) 8201) L.body.length
def YV (s i:Nat):Bool:=zra L t K O s i && Ui L t K O (zi (yr (z6 L.body s)) i).1.toNat (zi (yr (z6 L.body s)) i).2 (zX K O s+(zi (yr (z6 L.body s)) i).2*K.pc)
def ym (s:Nat):Nat:=(Xl L s).toNat
def Uc (s q:Nat):Int:=(zm K O s - ((q:Int)+1)) % t.r
def xx (k:Nat):List Int:=zaa (ym L) (Uc t K O) k
def xU (F:List Int) (i:Nat):Bool:=zh (fun j=>!decide (nth F j=nth F i)) i
def znv (a m j:Nat):Bool:=decide (zA t K O m - j*K.pc<zA t K O a) || (decide (m=a) && decide (j=0)) || !decide ((zm K O m - j - zm K O a) % t.r=0)
def Y7 (a:Nat):Bool:=zh (fun m=>zh (znv t K O a m) 1007) L.body.length
def yv:Bool :=
 xH L t K O && zh (fun i=>Yy K O (zu (z8 L t) i)) (z8 L t).length && zh (fun s=>zh (YV L t K O s) (yr (z6 L.body s)).length) L.body.length
  && zh (xU (xx L t K O L.body.length)) (xx L t K O L.body.length).length && zh (fun i=>Y7 L t K O (nth L.outs i).toNat) L.outs.length
def zst (B:List (List Int)) (k:Nat):List Int:=zaa (ym L) (fun s q=>nth (VC B s) q) k
def zul (B:List (List Int)):Nat->Int:=zsm (xx L t K O L.body.length) (zst L B L.body.length) (xT (ym L) L.body.length)
def zrv (B:List (List Int)):List Int:=(List.range t.r.toNat).map (zul L t K O B)
def zrw (B:List (List Int)) (R:List Int) (turns:Int):List Int:=L.outs.map fun o=>if 0<turns then nth R ((zm K O o.toNat+turns - 1) % t.r).toNat else nth (VC B o.toNat) 0
end
variable {L:Lp} {t:Tg} {K:Kn} {O:List Int} {B M:List (List Int)} {R:List Int}
theorem Zq (h:xH L t K O=true):zx L=true/\zp t=true/\Z6 t K L.logs=true/\K.ops.length=L.body.length/\O.length=L.body.length/\∀s,s<L.body.length->Z8 L O s=true/\YO L K O s=true:=by
 unfold xH at h
 simp only [Bool.and_eq_true,decide_eq_true_eq] at h
 obtain⟨⟨⟨⟨⟨h1,h2⟩,h3⟩,h4⟩,h5⟩,h6⟩:=h
 exact⟨h1,h2,h3,h4,h5,fun s hs=>by have:=zl h6 s hs;simpa using this⟩
theorem X6 {s:Nat} (h:Z8 L O s=true):0<=nth O s/\nth O s<L.body.length/\∀i,i<s->nth O i≠nth O s:=by
 unfold Z8 at h
 rw [Bool.and_eq_true] at h
 have h1:=zo.1 h.1
 refine⟨h1.1,by omega,fun i hi=>?_⟩
 have:=zl h.2 i hi
 simpa using this
theorem ztk {s:Nat} (h:YO L K O s=true):(opJ K O s).o=(z6 L.body s).o/\(opJ K O s).ar=(z6 L.body s).ar/\(opJ K O s).sp=(z6 L.body s).sp/\(opJ K O s).pl=(z6 L.body s).pl/\(opJ K O s).nn=(z6 L.body s).nn:=by
 unfold YO at h
 simp only [Bool.and_eq_true,decide_eq_true_eq] at h
 obtain⟨⟨⟨⟨h1,h2⟩,h3⟩,h4⟩,h5⟩:=h
 exact⟨h1,h2,h3,h4,h5⟩
theorem Z4 (h:xH L t K O=true):(1<=K.pc/\K.pc<=200/\1<=t.r)/\∀s,s<L.body.length->0<=zX K O s/\zX K O s<=1000/\zX K O s+1<=zA t K O s/\zA t K O s<=zX K O s+6:=by
 obtain⟨h1,h2,h3,h4,h5,h6⟩:=Zq h
 have hk:=h3
 unfold Z6 at hk
 simp only [Bool.and_eq_true] at hk
 obtain⟨⟨⟨⟨hk1,hk2⟩,hk3⟩,hk4⟩,hk5⟩:=hk
 have hp:=zo.1 hk2
 obtain⟨u1,u2,u3,hr1,-⟩:=yi hk1
 refine⟨⟨hp.1,hp.2,hr1⟩,fun s hs=>?_⟩
 obtain⟨o1,o2,-⟩:=X6 (h6 s hs).1
 have h7:=zl hk5 (yt O s) (by unfold yt;omega)
 unfold yF ZK at h7
 simp only [Bool.and_eq_true,decide_eq_true_eq] at h7
 have h8:=zo.1 h7.1.1.1.1.1
 have h9:=zo.1 h7.1.1.1.1.2
 have h10:=h7.1.1.1.2
 have h11:0<=(zq K.ops (yt O s)).sg*K.pc:=Int.mul_nonneg h9.1 (by omega)
 have h12:zX K O s=(zq K.ops (yt O s)).sl+(zq K.ops (yt O s)).sg*K.pc:=by unfold zX opJ;rw [Int.mul_comm]
 have hw:1<=zr t (opJ K O s).o/\zr t (opJ K O s).o<=6:=by
  have u1:=zT u1
  have u2:=zT u2
  have u3:=zT u3
  unfold zr
  rw [if_pos h2]
  unfold xA
  split
  ·omega
  ·split <;> omega
 unfold zA
 omega
theorem zsa (h:yv L t K O=true):xH L t K O=true/\(∀e∈z8 L t,Yy K O e=true)/\(∀s,s<L.body.length->∀i,i<(yr (z6 L.body s)).length->YV L t K O s i=true) /\
  (∀i j,i<j->j<(xx L t K O L.body.length).length->nth (xx L t K O L.body.length) i≠nth (xx L t K O L.body.length) j)/\∀a∈L.outs,Y7 L t K O a.toNat=true:=by
 unfold yv at h
 simp only [Bool.and_eq_true] at h
 obtain⟨⟨⟨⟨h1,h2⟩,h3⟩,h4⟩,h5⟩:=h
 refine⟨h1,fun e he=>?_,fun s hs i hi=>zl (zl h3 s hs) i hi,fun i j hij hj=>?_,fun a ha=>?_⟩
 ·obtain⟨i,hi,ei⟩:=List.mem_iff_getElem.1 he
  have h6:=zl h2 i hi
  have e2:zu (z8 L t) i=e:=by unfold zu;rw [List.getD,List.getElem?_eq_getElem hi,ei];rfl
  rw [e2] at h6
  exact h6
 ·have h6:=zl (zl h4 j hj) i hij
  simpa using h6
 ·obtain⟨i,hi,ei⟩:=List.mem_iff_getElem.1 ha
  have h6:=zl h5 i hi
  have e2:nth L.outs i=a:=by unfold nth;rw [List.getD,List.getElem?_eq_getElem hi,ei];rfl
  rw [e2] at h6
  exact h6
theorem ztl (h:yv L t K O=true):yQ L t K O:=by
 obtain⟨hl,hed,hus,hfr,hto⟩:=zsa h
 obtain⟨h1,h2,h3,h4,h5,h6⟩:=Zq hl
 obtain⟨⟨hp1,hp2,hr1⟩,hrg⟩:=Z4 hl
 refine⟨h1,h2,h3,h4,fun s hs=>?_,fun s s' hs hs' e=>?_,fun s hs=>ztk (h6 s hs).2,fun e he=>of_decide_eq_true (hed e he),fun s hs ho=>?_,fun s hs ho=>?_,?_,?_⟩
 ·obtain⟨o1,o2,-⟩:=X6 (h6 s hs).1
  unfold yt;omega
 ·obtain⟨o1,o2,o3⟩:=X6 (h6 s hs).1
  obtain⟨q1,q2,q3⟩:=X6 (h6 s' hs').1
  unfold yt at e
  by_cases e1:s<s'
  ·exact absurd (by omega) (q3 s e1)
  ·by_cases e2:s'<s
   ·exact absurd (by omega) (o3 s' e2)
   ·omega
 ·have hu:(yr (z6 L.body s)).length=(if (z6 L.body s).o=4 then 1 else 2)/\zi (yr (z6 L.body s)) 0=((z6 L.body s).xa,(z6 L.body s).xb):=by
   unfold yr
   by_cases e:(z6 L.body s).o=4
   ·rw [if_pos e,if_pos e];exact⟨rfl,rfl⟩
   ·rw [if_neg e,if_pos (by omega),if_neg e];exact⟨rfl,rfl⟩
  have h7:=hus s hs 0 (by rw [hu.1];split <;> omega)
  unfold YV zra at h7
  rw [Bool.and_eq_true] at h7
  have h8:=of_decide_eq_true h7.1
  rw [if_neg (by omega),hu.2] at h8
  exact h8
 ·have hu:(yr (z6 L.body s)).length=2/\zi (yr (z6 L.body s)) 1=((z6 L.body s).ya,(z6 L.body s).yb):=by
   unfold yr
   rw [if_neg (by omega),if_pos ho];exact⟨rfl,rfl⟩
  have h7:=hus s hs 1 (by rw [hu.1];omega)
  unfold YV zra at h7
  rw [Bool.and_eq_true] at h7
  have h8:=of_decide_eq_true h7.1
  rw [if_pos rfl,hu.2] at h8
  exact h8
 ·intro s hs r hr m hm j hne hrest
  obtain⟨i,hi,rfl⟩:=zv3 hr
  obtain⟨r1,r2,r3,r4⟩:=xK h1 hs _ hr
  have h7:=hus s hs i hi
  unfold YV at h7
  rw [Bool.and_eq_true] at h7
  have h8:=zl h7.2 m hm
  generalize zi (yr (z6 L.body s)) i=r at *
  obtain⟨g1,g2,g3,g4⟩:=hrg s hs
  obtain⟨a1,a2,a3,a4⟩:=hrg r.1.toNat (by omega)
  obtain⟨m1,m2,m3,m4⟩:=hrg m hm
  have hb:r.2*K.pc<=3*200:=Int.mul_le_mul r4 hp2 (by omega) (by omega)
  have hb0:0<=r.2*K.pc:=Int.mul_nonneg r3 (by omega)
  by_cases hj:-4100<=j/\j<=4100
  ·have h9:=zl h8 (j+4100).toNat (by omega)
   have h9':Uh t K O r.1.toNat r.2 (zX K O s+r.2*K.pc) m (((j+4100).toNat:Int) - 4100)=true:=h9
   rw [show (((j+4100).toNat:Nat):Int) - 4100=j by omega] at h9'
   unfold Uh at h9'
   rw [decide_eq_true hrest] at h9'
   have hna:(decide (m=r.1.toNat) && decide (j=0))=false:=by
    by_cases e1:m=r.1.toNat
    ·rw [decide_eq_false (fun e2=>hne ⟨e1,e2⟩)];simp
    ·rw [decide_eq_false e1];rfl
   rw [hna] at h9'
   have h10:Vz t K O r.1.toNat r.2 (zX K O s+r.2*K.pc) m j=false:=by simpa using h9'
   unfold Vz at h10
   rw [Bool.or_eq_false_iff] at h10
   obtain⟨n1,n2⟩:=h10
   constructor
   ·by_cases e1:zA t K O m+j*K.pc<zA t K O r.1.toNat
    ·exact .inl e1
    ·refine .inr ?_
     rw [decide_eq_true (by omega)] at n1
     have:=of_decide_eq_false n1
     omega
   ·intro b1 b2
    rw [decide_eq_true b1,decide_eq_true b2] at n2
    have:=of_decide_eq_false n2
    omega
  ·by_cases hj2:0<j
   ·have h9:j*1<=j*K.pc:=Int.mul_le_mul_of_nonneg_left hp1 (by omega)
    exact⟨.inr (by omega),fun _ _=>by omega⟩
   ·have h9:(-j)*1<=(-j)*K.pc:=Int.mul_le_mul_of_nonneg_left hp1 (by omega)
    rw [Int.neg_mul,Int.neg_mul] at h9
    exact⟨.inl (by omega),fun _ h=>by omega⟩
 ·intro a ha m hm j hj hne hrest
  obtain⟨-,-,-,-,-,h6o,-⟩:=zj h1
  have h8:=zl (hto a ha) m hm
  obtain⟨m1,m2,m3,m4⟩:=hrg m hm
  have han:a.toNat<L.body.length:=by
   obtain⟨i,hi,ei⟩:=List.mem_iff_getElem.1 ha
   have h9:=ZG L.body.length L.outs (i+1) (by omega) (zN fun k hk=>zl h6o k (by omega))
   have e2:zfy L.outs (i+1)=a:=by show nth L.outs i=a;unfold nth;rw [List.getD,List.getElem?_eq_getElem hi,ei];rfl
   have:=zj h1
   omega
  obtain⟨a1,a2,a3,a4⟩:=hrg a.toNat han
  by_cases hj2:(-j).toNat<1007
  ·have h9:=zl h8 (-j).toNat hj2
   unfold znv at h9
   have ej:(((-j).toNat:Nat):Int)=-j:=by omega
   rw [ej,show zm K O m - -j - zm K O a.toNat=zm K O m+j - zm K O a.toNat by omega,decide_eq_true hrest] at h9
   have hna:(decide (m=a.toNat) && decide ((-j).toNat=0))=false:=by
    by_cases e1:m=a.toNat
    ·rw [decide_eq_false (show ¬((-j).toNat=0) from fun e2=>hne ⟨e1,by omega⟩)];simp
    ·rw [decide_eq_false e1];rfl
   rw [hna] at h9
   have h10:zA t K O m - -j*K.pc<zA t K O a.toNat:=by simpa using h9
   rw [Int.neg_mul] at h10
   omega
  ·have h9:(-j)*1<=(-j)*K.pc:=Int.mul_le_mul_of_nonneg_left hp1 (by omega)
   rw [Int.neg_mul,Int.neg_mul] at h9
   omega
theorem xR {n:Nat} {f:Nat->Int} {i:Nat} (h:i<n):nth ((List.range n).map f) i=f i:=by
 unfold nth
 rw [List.getD,List.getElem?_map,List.getElem?_range h]
 rfl
theorem zta (h:yv L t K O=true) (B:List (List Int)):zbc L t K O B (zrv L t K O B):=by
 obtain⟨hl,hed,hus,hfr,hto⟩:=zsa h
 obtain⟨h1,-⟩:=Zq hl
 obtain⟨⟨hp1,hp2,hr1⟩,hrg⟩:=Z4 hl
 intro s hs r hr q hq1 hq2
 obtain⟨i,hi,rfl⟩:=zv3 hr
 obtain⟨r1,r2,r3,r4⟩:=xK h1 hs _ hr
 have hfar:(zi (yr (z6 L.body s)) i).2<=Xl L (zi (yr (z6 L.body s)) i).1.toNat:=by
  rw [show (((zi (yr (z6 L.body s)) i).1.toNat:Nat):Int)=(zi (yr (z6 L.body s)) i).1 by omega]
  exact zoq L _ L.body.length s hs i hi rfl
 generalize zi (yr (z6 L.body s)) i=r at *
 have hq3:(q - 1).toNat<ym L r.1.toNat:=by unfold ym;omega
 have e1:=zbv (ym L) (Uc t K O) L.body.length r.1.toNat (q - 1).toNat (by omega) hq3
 have e2:=zbv (ym L) (fun s q=>nth (VC B s) q) L.body.length r.1.toNat (q - 1).toNat (by omega) hq3
 have e3:Uc t K O r.1.toNat (q - 1).toNat=(zm K O r.1.toNat - q) % t.r:=by
  unfold Uc
  rw [show (((q - 1).toNat:Nat):Int)+1=q by omega]
 have hm0:=Int.emod_nonneg (zm K O r.1.toNat - q) (by omega:t.r≠0)
 have hm1:=Int.emod_lt_of_pos (zm K O r.1.toNat - q) (by omega:0<t.r)
 unfold zrv
 rw [xR (by omega)]
 unfold zul
 have hpos:=zn0 (ym L) L.body.length r.1.toNat (by omega)
 have hlen:(xx L t K O L.body.length).length=xT (ym L) L.body.length:=Uf _ _ _
 have hfirst0:∀k,k<(xx L t K O L.body.length).length->0<=nth (xx L t K O L.body.length) k:=by
  intro k hk
  have hall:∀n,∀x∈zaa (ym L) (Uc t K O) n,0<=x:=by
   intro n
   induction n with
   | zero=>intro x hx;cases hx
   | succ n ih =>
     intro x hx
     have hx':x∈zaa (ym L) (Uc t K O) n++(List.range (ym L n)).map (Uc t K O n):=hx
     rcases List.mem_append.1 hx' with hx2 | hx2
     ·exact ih x hx2
     ·obtain⟨y,-,rfl⟩:=List.mem_map.1 hx2
      exact Int.emod_nonneg _ (by omega)
  refine hall L.body.length _ ?_
  unfold nth
  rw [List.getD,List.getElem?_eq_getElem hk]
  exact List.getElem_mem _
 have h9:=zws (F:=xx L t K O L.body.length) (V:=zst L B L.body.length) (xT (ym L) L.body.length) (fun i j hij hj e=>hfr i j hij (by omega) (by
  have g1:=hfirst0 i (by omega)
  have g2:=hfirst0 j (by omega)
  omega)) (xT (ym L) r.1.toNat+(q - 1).toNat) (by omega)
 have e1':nth (xx L t K O L.body.length) (xT (ym L) r.1.toNat+(q - 1).toNat)=(zm K O r.1.toNat - q) % t.r:=e1.trans e3
 rw [e1'] at h9
 exact h9.trans e2
theorem zug (h:yv L t K O=true) {turns:Nat} (h2:turns<=200) (a b:Nat):(zq2 t K L.logs turns (zrv L t K O B) M).m a b=(zpn L B turns (zgf M)).mem a b:=(ztl h).words h2 (zta h B) a b
theorem zuu (h:yv L t K O=true) {turns:Nat} (h2:turns<=200):zrw L t K O B (zs5 t.r.toNat (zq2 t K L.logs turns (zrv L t K O B) M)) turns=zrt L B turns (zpn L B turns (zgf M)):=by
 have ht:=ztl h
 obtain⟨-,-,-,-,-,h6o,-⟩:=zj ht.may
 have hr:=(ht.ok (turns:=1) (Nat.le_refl _)).r
 unfold zrw zrt
 refine List.map_congr_left fun a ha=>?_
 have han:a.toNat<L.body.length:=by
  obtain⟨i,hi,ei⟩:=List.mem_iff_getElem.1 ha
  have h9:=ZG L.body.length L.outs (i+1) (by omega) (zN fun k hk=>zl h6o k (by omega))
  have e2:zfy L.outs (i+1)=a:=by show nth L.outs i=a;unfold nth;rw [List.getD,List.getElem?_eq_getElem hi,ei];rfl
  have:=zj ht.may
  omega
 by_cases e:turns=0
 ·rw [if_neg (by omega),if_pos e]
 ·rw [if_pos (by omega),if_neg e,<-ht.outs (by omega) h2 (zta h B) (M:=M) ha han]
  have hm0:=Int.emod_nonneg (zm K O a.toNat+turns - 1) (by omega:t.r≠0)
  have hm1:=Int.emod_lt_of_pos (zm K O a.toNat+turns - 1) (by omega:0<t.r)
  unfold zs5
  rw [xR (by omega)]
end Go.Proofs.YtjoapiafpahihabGreat
namespace Go.Proofs.YtjoapiafpahihabGreat
set_option linter.unusedVariables false
section
variable (L:Lp) (t:Tg) (P:Int) (T D:List Int)
def xV (s i:Nat):Int:=(nth D (zi (yr (z6 L.body s)) i).1.toNat+nth T (zi (yr (z6 L.body s)) i).1.toNat / P - (zi (yr (z6 L.body s)) i).2 - nth T s / P) % t.r
def opE (s:Nat):Kop:=⟨nth T s % P,nth T s / P,(z6 L.body s).o,nth D s,if 0<(yr (z6 L.body s)).length then xV L t P T D s 0 else 0,if 1<(yr (z6 L.body s)).length then xV L t P T D s 1 else 0,(z6 L.body s).ar,(z6 L.body s).sp,(z6 L.body s).pl,(z6 L.body s).nn⟩
def zM:Nat->Int
 | 0=>0
 | k+1=>if zM k<=nth T k / P then nth T k / P+1 else zM k
def zy:Kn:=⟨P,zM P T L.body.length,(List.range L.body.length).map (opE L t P T D)⟩
def yI:Bool:=decide (D.length=L.body.length) && zh (fun s=>inR (nth D s) 0 (t.r - 1)) L.body.length
end
def yp (n:Nat):List Int:=(List.range n).map fun i:Nat=>(i:Int)
variable {L:Lp} {t:Tg} {P:Int} {T D:List Int}
theorem XP {n s:Nat} (h:s<n):nth (yp n) s=s:=xR h
theorem YF (n:Nat):(yp n).length=n:=by unfold yp;simp
theorem Zz:(zy L t P T D).ops.length=L.body.length:=by unfold zy;simp
theorem XE {s:Nat} (h:s<L.body.length):zq (zy L t P T D).ops s=opE L t P T D s:=by
 unfold zq zy
 show ((List.range L.body.length).map (opE L t P T D)).getD s Kop.nil=_
 rw [List.getD,List.getElem?_map,List.getElem?_range h]
 rfl
theorem Vp (P:Int) (T:List Int):∀k s,s<k->nth T s / P<zM P T k:=by
 intro k
 induction k with
 | zero=>intro s h;omega
 | succ k ih =>
   intro s h
   show _<(if zM P T k<=nth T k / P then nth T k / P+1 else zM P T k)
   by_cases e:s=k
   ·subst e;split <;> omega
   ·have:=ih s (by omega)
    split <;> omega
theorem Vq (P:Int) (T:List Int) (c:Int) (hc:0<=c):∀k,(∀s,s<k->nth T s / P<c)->zM P T k<=c:=by
 intro k
 induction k with
 | zero=>exact fun _=>hc
 | succ k ih =>
   intro h
   show (if zM P T k<=nth T k / P then nth T k / P+1 else zM P T k)<=c
   have:=ih fun s hs=>h s (by omega)
   have:=h k (by omega)
   split <;> omega
theorem zo4 (L:Lp) (hm:zx L=true) {s:Nat} (hs:s<L.body.length):((yr (z6 L.body s)).length:Int)=xl (z6 L.body s).o:=by
 unfold yr xl
 split
 ·rfl
 ·split <;> rfl
theorem zmm {L:Lp} (hm:zx L=true) {s:Nat} (hs:s<L.body.length) {x:Kop} (ho:x.o=(z6 L.body s).o) (h1:x.ar=(z6 L.body s).ar) (h2:x.sp=(z6 L.body s).sp) (h3:x.pl=(z6 L.body s).pl) (h4:x.nn=(z6 L.body s).nn):zx (Uk L.logs x)=true:=by
 obtain⟨m1,m2,m3,m4,m5,m6,m7⟩:=zj hm
 have hst:yd L.logs.length L.body.length s (z6 L.body s)=true:=zl m7 s hs
 have hx:yd L.logs.length 2 1 ⟨x.o,0,0,0,0,x.ar,x.sp,x.pl,x.nn⟩=true:=by
  rw [ho,h1,h2,h3,h4]
  unfold yd at hst ⊢
  dsimp only
  split
  ·next e=>rw [if_pos e] at hst;have:=of_decide_eq_true hst;exact decide_eq_true ⟨rfl,rfl,rfl,rfl,this.2.2.2.2⟩
  ·next e1 =>
   rw [if_neg e1] at hst
   split
   ·next e=>rw [if_pos e] at hst;have:=of_decide_eq_true hst;exact decide_eq_true ⟨rfl,rfl,rfl,rfl,this.2.2.2.2⟩
   ·next e2 =>
    rw [if_neg e2] at hst
    split
    ·next e =>
     rw [if_pos e,Bool.and_eq_true] at hst
     have:=of_decide_eq_true hst.1
     rw [Bool.and_eq_true]
     exact⟨decide_eq_true ⟨rfl,rfl,rfl,rfl,this.2.2.2.2⟩,hst.2⟩
    ·next e3 =>
     rw [if_neg e3] at hst
     split
     ·next e =>
      rw [if_pos e,Bool.and_eq_true,Bool.and_eq_true] at hst
      have:=of_decide_eq_true hst.1.1
      rw [Bool.and_eq_true,Bool.and_eq_true]
      exact⟨⟨decide_eq_true ⟨rfl,rfl,this.2.2⟩,hst.1.2⟩,rfl⟩
     ·next e4 =>
      rw [if_neg e4] at hst
      split
      ·next e =>
       rw [if_pos e,Bool.and_eq_true,Bool.and_eq_true] at hst
       rw [Bool.and_eq_true,Bool.and_eq_true]
       exact⟨⟨hst.1.1,rfl⟩,rfl⟩
      ·next e5=>rw [if_neg e5] at hst;cases hst
 unfold zx Uk
 simp only [Bool.and_eq_true,decide_eq_true_eq]
 refine⟨⟨⟨⟨⟨m1,by simp⟩,by simp⟩,m5⟩,rfl⟩,?_⟩
 unfold xN
 refine zN fun k hk=>?_
 have hk2:k<2:=hk
 match k,hk2 with
 | 0,_=>rfl
 | 1,_=>exact hx
theorem yK (h:zD L t P T=true) {s:Nat} (hs:s<L.body.length):0<=nth T s/\nth T s<=1000/\(Yr L P T s:Int)<=zF t (zC (z6 L.body s).o):=by
 obtain⟨-,-,-,-,h5,h6,-⟩:=zL h
 have h7:=zl h6 s (by omega)
 unfold Y6 at h7
 rw [Bool.and_eq_true] at h7
 have h8:=zo.1 h7.1
 exact⟨h8.1,h8.2,of_decide_eq_true h7.2⟩
theorem zli (h:zD L t P T=true) (hd:yI L t D=true):Z6 t (zy L t P T D) L.logs=true:=by
 obtain⟨h1,h2,h3,h4,h5,h6,h7⟩:=zL h
 obtain⟨-,m2,m3,-⟩:=zj h1
 obtain⟨-,-,-,hr1,-⟩:=yi h2
 unfold yI at hd
 rw [Bool.and_eq_true] at hd
 have hdiv:∀s,s<L.body.length->0<=nth T s / P/\nth T s / P<=1000/\nth T s / P*P+nth T s % P=nth T s/\0<=nth T s % P/\nth T s % P<P:=by
  intro s hs
  obtain⟨t1,t2,-⟩:=yK h hs
  refine⟨Int.ediv_nonneg t1 (by omega),Int.le_trans (Int.ediv_le_self _ t1) t2,?_,Int.emod_nonneg _ (by omega),Int.emod_lt_of_pos _ (by omega)⟩
  rw [Int.mul_comm]
  exact Int.mul_ediv_add_emod _ _
 have hst1:1<=zM P T L.body.length:=by
  have:=Vp P T L.body.length 0 (by omega)
  have:=(hdiv 0 (by omega)).1
  omega
 have hst2:zM P T L.body.length<=1001:=Vq P T 1001 (by omega) _ fun s hs=>by have:=(hdiv s hs).2.1;omega
 unfold Z6
 simp only [Bool.and_eq_true]
 refine⟨⟨⟨⟨h2,zK ⟨h3,h4⟩⟩,zK ⟨hst1,hst2⟩⟩,?_⟩,?_⟩
 ·rw [Zz];exact zK (by omega)
 ·refine zN fun s hs=>?_
  rw [Zz] at hs
  rw [XE hs,Bool.and_eq_true]
  obtain⟨d1,d2,d3,d4,d5⟩:=hdiv s hs
  obtain⟨t1,t2,t3⟩:=yK h hs
  have hul:=zo4 L h1 hs
  have hdr:=zo.1 (zl hd.2 s hs)
  have hn0:=fun i=>Int.emod_nonneg (nth D (zi (yr (z6 L.body s)) i).1.toNat+nth T (zi (yr (z6 L.body s)) i).1.toNat / P - (zi (yr (z6 L.body s)) i).2 - nth T s / P) (by omega:t.r≠0)
  have hn1:=fun i=>Int.emod_lt_of_pos (nth D (zi (yr (z6 L.body s)) i).1.toNat+nth T (zi (yr (z6 L.body s)) i).1.toNat / P - (zi (yr (z6 L.body s)) i).2 - nth T s / P) (by omega:0<t.r)
  refine⟨?_,decide_eq_true ?_⟩
  ·unfold yF
   rw [Bool.and_eq_true,Bool.and_eq_true]
   refine⟨⟨?_,?_⟩,zmm h1 hs rfl rfl rfl rfl rfl⟩
   ·have:=Vp P T L.body.length s hs
    exact YT (by show ¬nth T s % P<0;omega) (by show ¬P<=nth T s % P;omega) (by show ¬nth T s / P<0;omega) (by show ¬zM P T L.body.length<=nth T s / P;omega) (by show ¬1000<nth T s / P*P+nth T s % P;omega)
   ·have ha:0<=(opE L t P T D s).a/\(opE L t P T D s).a<t.r:=by
     show 0<=(if 0<(yr (z6 L.body s)).length then xV L t P T D s 0 else 0)/\(if 0<(yr (z6 L.body s)).length then xV L t P T D s 0 else 0)<t.r
     split
     ·exact⟨hn0 0,hn1 0⟩
     ·omega
    have hb:0<=(opE L t P T D s).b/\(opE L t P T D s).b<t.r:=by
     show 0<=(if 1<(yr (z6 L.body s)).length then xV L t P T D s 1 else 0)/\(if 1<(yr (z6 L.body s)).length then xV L t P T D s 1 else 0)<t.r
     split
     ·exact⟨hn0 1,hn1 1⟩
     ·omega
    refine XW (by show ¬nth D s<0;omega) (by show ¬t.r<=nth D s;omega) (by omega) (by omega) (by omega) (by omega) ?_ ?_
    ·show 1<=xl (z6 L.body s).o\/(if 0<(yr (z6 L.body s)).length then xV L t P T D s 0 else 0)=0
     by_cases e:0<(yr (z6 L.body s)).length
     ·exact .inl (by omega)
     ·exact .inr (if_neg e)
    ·show 2<=xl (z6 L.body s).o\/(if 1<(yr (z6 L.body s)).length then xV L t P T D s 1 else 0)=0
     by_cases e:1<(yr (z6 L.body s)).length
     ·exact .inl (by omega)
     ·exact .inr (if_neg e)
  ·refine Int.le_trans ?_ t3
   unfold Un Yr
   rw [Zz,h5]
   refine Int.ofNat_le.2 (zbn fun j hj hp=>?_)
   obtain⟨j1,j2,-⟩:=yK h hj
   unfold ZH at hp
   rw [XE hj,XE hs] at hp
   unfold XO
   rw [Int.tmod_eq_emod_of_nonneg j1,Int.tmod_eq_emod_of_nonneg t1]
   exact hp
theorem zd1 (len:Nat->Nat):∀k i,i<xT len k->∃s q,s<k/\q<len s/\i=xT len s+q:=by
 intro k
 induction k with
 | zero=>intro i h;exact absurd h (Nat.not_lt_zero _)
 | succ k ih =>
   intro i h
   have h':i<xT len k+len k:=h
   by_cases e:i<xT len k
   ·obtain⟨s,q,h1,h2,h3⟩:=ih i e
    exact⟨s,q,by omega,h2,h3⟩
   ·exact⟨k,i - xT len k,by omega,by omega,by omega⟩
end Go.Proofs.YtjoapiafpahihabGreat
