import Derived.Test.YtjoapiafpahihabGreatRounds
namespace Go.Proofs.YtjoapiafpahihabGreat
set_option linter.unusedVariables false
variable {k n i d y a b fr to bk wt size x i' s:Nat} {q:Nx}
section
section
variable (t:Tg) (K:Kn) (logs:List Int) (gD:Nat) (s0:Kst)
def yZ (k i:Nat):Int:=(zp K.ops k).sl+K.pc*((zp K.ops k).sg+i)
def zep (n:Nat):Nat->Int:=xx n (zJ t K logs gD s0 n).due (zJ t K logs gD s0 n).f (zJ t K logs gD s0 n).due.length
def ze8 (k i:Nat):Int:=UK logs t.r K.pc (yZ K k i) (zep t K logs gD s0 (yZ K k i).toNat) (zJ t K logs gD s0 (yZ K k i).toNat).m (zp K.ops k)
def YQ (k i:Nat):Int:=yZ K k i+xW t (zW (zp K.ops k).o)
def YX (k i:Nat):Int:=((zp K.ops k).d+((zp K.ops k).sg+i)) % t.r
def evE (k i:Nat):Du:=⟨YQ t K k i,YX t K k i,ze8 t K logs gD s0 k i⟩
end
structure KOk (t:Tg) (K:Kn) (gD:Nat):Prop where
 pc:1<=K.pc
 st:1<=K.st
 r:1<=t.r
 op:∀k,k<K.ops.length->(0<=(zp K.ops k).sl/\(zp K.ops k).sl<K.pc)/\(0<=(zp K.ops k).sg/\(zp K.ops k).sg<K.st)
 wt:∀o,1<=xW t (zW o)/\xW t (zW o)<=6
 tu:1<=gD
variable {t:Tg} {K:Kn} {logs:List Int} {gD:Nat} {s0:Kst}
theorem xi (h:KOk t K gD) (hk:k<K.ops.length) (i:Nat):0<=yZ K k i/\yZ K k i / K.pc=(zp K.ops k).sg+i/\yZ K k i % K.pc=(zp K.ops k).sl:=by
 obtain⟨⟨h1,h2⟩,h3,h4⟩:=h.op k hk
 have hp:=h.pc
 have h5:0<=K.pc*((zp K.ops k).sg+i):=Int.mul_nonneg (by omega) (by omega)
 refine⟨by unfold yZ;omega,?_,?_⟩
 ·unfold yZ
  rw [Int.add_mul_ediv_left _ _ (by omega:K.pc≠0),Int.ediv_eq_zero_of_lt h1 h2,Int.zero_add]
 ·unfold yZ
  rw [Int.add_mul_emod_self_left]
  exact Int.emod_eq_of_lt h1 h2
theorem UP (h:KOk t K gD) (hk:k<K.ops.length):YJ K.pc gD n (zp K.ops k)=true↔∃i,i<gD/\(n:Int)=yZ K k i:=by
 obtain⟨⟨h1,h2⟩,h3,h4⟩:=h.op k hk
 have hp:=h.pc
 unfold YJ
 simp only [Bool.and_eq_true,decide_eq_true_eq]
 constructor
 ·rintro ⟨⟨e1,e2⟩,e3⟩
  refine⟨((n:Int) / K.pc - (zp K.ops k).sg).toNat,by omega,?_⟩
  unfold yZ
  rw [e1,show (zp K.ops k).sg+((((n:Int) / K.pc - (zp K.ops k).sg).toNat:Nat):Int)=(n:Int) / K.pc by omega]
  have:=Int.emod_add_mul_ediv (n:Int) K.pc
  omega
 ·rintro ⟨i,hi,e⟩
  obtain⟨-,h5,h6⟩:=xi h hk i
  rw [e,h5,h6]
  exact⟨⟨rfl,by omega⟩,by omega⟩
theorem U1 (h:KOk t K gD) (hk:k<K.ops.length) (hi:i<gD):yZ K k i<Zr K gD:=by
 obtain⟨⟨h1,h2⟩,h3,h4⟩:=h.op k hk
 unfold yZ Zr
 have hp:=h.pc
 have h5:K.pc*((zp K.ops k).sg+i)<=K.pc*((gD:Int)+K.st - 1 - 1):=Int.mul_le_mul_of_nonneg_left (by omega) (by omega)
 have h6:K.pc*((gD:Int)+K.st - 1 - 1)=((gD:Int)+K.st - 1)*K.pc - K.pc:=by rw [Int.mul_sub,Int.mul_one,Int.mul_comm]
 omega
theorem zye {logs:List Int} {tu now:Int} {f:Nat->Int} {m:Nat->Nat->Int} {d:Du}:∀k,d∈(YF t K logs tu now f m q k).du↔d∈q.du\/∃j,j<k/\YJ K.pc tu now (zp K.ops j)=true/\d=⟨now+xW t (zW (zp K.ops j).o),((zp K.ops j).d+now / K.pc) % t.r,UK logs t.r K.pc now f m (zp K.ops j)⟩:=by
 intro k
 induction k with
 | zero=>exact⟨.inl,fun h=>h.elim id fun ⟨j,hj,_⟩=>absurd hj (Nat.not_lt_zero _)⟩
 | succ k ih =>
   show d∈(opK t logs K.pc tu now f m (YF t K logs tu now f m q k) (zp K.ops k)).du↔_
   unfold opK
   by_cases ha:YJ K.pc tu now (zp K.ops k)=true
   ·rw [if_pos ha]
    show d∈(YF t K logs tu now f m q k).du++[_]↔_
    rw [List.mem_append,ih,List.mem_singleton]
    constructor
    ·rintro ((h | ⟨j,h1,h2,h3⟩) | h)
     ·exact .inl h
     ·exact .inr ⟨j,by omega,h2,h3⟩
     ·exact .inr ⟨k,by omega,ha,h⟩
    ·rintro (h | ⟨j,h1,h2,h3⟩)
     ·exact .inl (.inl h)
     ·by_cases e:j=k
      ·subst e;exact .inr h3
      ·exact .inl (.inr ⟨j,by omega,h2,h3⟩)
   ·rw [if_neg ha,ih]
    constructor
    ·rintro (h | ⟨j,h1,h2,h3⟩)
     ·exact .inl h
     ·exact .inr ⟨j,by omega,h2,h3⟩
    ·rintro (h | ⟨j,h1,h2,h3⟩)
     ·exact .inl h
     ·by_cases e:j=k
      ·subst e;exact absurd h2 ha
      ·exact .inr ⟨j,by omega,h2,h3⟩
theorem zzf (n:Nat):(zJ t K logs gD s0 (n+1)).f=zep t K logs gD s0 n:=by
 show (Vj t K logs gD n (zJ t K logs gD s0 n)).f=_
 unfold Vj
 split <;> rfl
theorem zk6 (n:Nat) (d:Du):d∈(zJ t K logs gD s0 (n+1)).due↔(d∈(zJ t K logs gD s0 n).due/\d.at_≠n)\/(¬Zr K gD<=n/\∃j,j<K.ops.length/\YJ K.pc gD n (zp K.ops j)=true/\d=⟨n+xW t (zW (zp K.ops j).o),((zp K.ops j).d+n / K.pc) % t.r,UK logs t.r K.pc n (zep t K logs gD s0 n) (zJ t K logs gD s0 n).m (zp K.ops j)⟩):=by
 have hr:d∈yR n (zJ t K logs gD s0 n).due (zJ t K logs gD s0 n).due.length↔d∈(zJ t K logs gD s0 n).due/\d.at_≠n:=by
  rw [VK,List.mem_filter]
  simp
 show d∈(Vj t K logs gD n (zJ t K logs gD s0 n)).due↔_
 unfold Vj
 by_cases hl:Zr K gD<=n
 ·rw [if_pos hl]
  show d∈yR _ _ _↔_
  rw [hr]
  exact⟨.inl,fun h=>h.elim id fun h2=>absurd hl h2.1⟩
 ·rw [if_neg hl]
  show d∈(YF _ _ _ _ _ _ _ _ _).du↔_
  rw [zye,<-hr]
  exact⟨fun h=>h.elim .inl fun h2=>.inr ⟨hl,h2⟩,fun h=>h.elim .inl fun h2=>.inr h2.2⟩
theorem UU (h:KOk t K gD) (h0:s0.due=[]):∀(n:Nat) (d:Du),d∈(zJ t K logs gD s0 n).due↔∃k i,k<K.ops.length/\i<gD/\yZ K k i<n/\n<=YQ t K k i/\d=evE t K logs gD s0 k i:=by
 intro n
 induction n with
 | zero =>
   intro d
   rw [show zJ t K logs gD s0 0=s0 from rfl,h0]
   constructor
   ·intro h;cases h
   ·rintro ⟨k,i,hk,hi,hc,-⟩
    have:=(xi h hk i).1
    omega
 | succ n ih =>
   intro d
   rw [zk6,ih]
   constructor
   ·rintro (⟨⟨k,i,h1,h2,h3,h4,rfl⟩,h5⟩ | ⟨hl,j,hj,ha,rfl⟩)
    ·have h6:YQ t K k i≠n:=h5
     exact⟨k,i,h1,h2,by omega,by omega,rfl⟩
    ·obtain⟨i,hi,e⟩:=(UP h hj).1 ha
     obtain⟨-,h5,-⟩:=xi h hj i
     have hw:=h.wt (zp K.ops j).o
     refine⟨j,i,hj,hi,by omega,by unfold YQ;omega,?_⟩
     unfold evE YQ YX ze8
     have hn:((n:Int)).toNat=n:=Int.toNat_natCast n
     rw [<-e,hn,e,h5]
   ·rintro ⟨k,i,h1,h2,h3,h4,rfl⟩
    by_cases hc:yZ K k i<n
    ·refine .inl ⟨⟨k,i,h1,h2,hc,by omega,rfl⟩,?_⟩
     show YQ t K k i≠n
     omega
    ·have e:(n:Int)=yZ K k i:=by omega
     obtain⟨-,h5,-⟩:=xi h h1 i
     refine .inr ⟨by have:=U1 h h1 h2;omega,k,h1,(UP h h1).2 ⟨i,h2,e⟩,?_⟩
     unfold evE YQ YX ze8
     have hn:((n:Int)).toNat=n:=Int.toNat_natCast n
     rw [<-e,hn,e,h5]
theorem zb1 {now:Int} {due:List Du} {f:Nat->Int}:∀k,k<=due.length->(∀d∈due,d.at_=now->d.rg.toNat≠y)->xx now due f k y=f y:=by
 intro k
 induction k with
 | zero=>exact fun _ _=>rfl
 | succ k ih =>
   intro hk h
   show (if (yK due k).at_=now then YH (xx now due f k) (yK due k).rg.toNat (yK due k).v else xx now due f k) y=_
   by_cases e:(yK due k).at_=now
   ·rw [if_pos e]
    unfold YH
    rw [if_neg (fun e2=>h _ (UT (by omega)) e e2.symm),ih (by omega) h]
   ·rw [if_neg e,ih (by omega) h]
theorem zuh {now:Int} {due:List Du} {f:Nat->Int} {v:Int}:∀k,k<=due.length->(∀d∈due,d.at_=now->d.rg.toNat=y->d.v=v)->(∃j,j<k/\(yK due j).at_=now/\(yK due j).rg.toNat=y)->xx now due f k y=v:=by
 intro k
 induction k with
 | zero=>rintro _ _ ⟨j,hj,_⟩;omega
 | succ k ih =>
   rintro hk h ⟨j,hj,e1,e2⟩
   show (if (yK due k).at_=now then YH (xx now due f k) (yK due k).rg.toNat (yK due k).v else xx now due f k) y=_
   by_cases e:(yK due k).at_=now
   ·rw [if_pos e]
    unfold YH
    by_cases e3:y=(yK due k).rg.toNat
    ·rw [if_pos e3];exact h _ (UT (by omega)) e e3.symm
    ·rw [if_neg e3]
     refine ih (by omega) h ⟨j,?_,e1,e2⟩
     by_cases e4:j=k
     ·subst e4;exact absurd e2.symm e3
     ·omega
   ·rw [if_neg e]
    refine ih (by omega) h ⟨j,?_,e1,e2⟩
    by_cases e4:j=k
    ·subst e4;exact absurd e1 e
    ·omega
theorem zk0 (n:Nat):zep t K logs gD s0 (n+1)=xx (n+1:Nat) (zJ t K logs gD s0 (n+1)).due (zep t K logs gD s0 n) (zJ t K logs gD s0 (n+1)).due.length:=by
 show xx (n+1:Nat) _ (zJ t K logs gD s0 (n+1)).f _=_
 rw [zzf]
theorem zv5 {l:List Du} {d:Du} (h:d∈l):∃j,j<l.length/\yK l j=d:=by
 obtain⟨j,hj,rfl⟩:=List.mem_iff_getElem.1 h
 exact⟨j,hj,by unfold yK;rw [List.getD,List.getElem?_eq_getElem hj];rfl⟩
theorem zry (h:KOk t K gD) (h0:s0.due=[]) (y:Nat):∀n:Nat,(∀k i,k<K.ops.length->i<gD->YQ t K k i<=n->(YX t K k i).toNat≠y)->zep t K logs gD s0 n y=s0.f y:=by
 intro n
 induction n with
 | zero =>
   intro hno
   refine zb1 _ (Nat.le_refl _) fun d hd e=>?_
   obtain⟨k,i,hk,hi,hc,-⟩:=(UU h h0 0 d).1 hd
   have:=(xi h hk i).1
   omega
 | succ n ih =>
   intro hno
   rw [zk0,zb1 _ (Nat.le_refl _) fun d hd e=>?_]
   ·exact ih fun k i hk hi hd=>hno k i hk hi (by omega)
   ·obtain⟨k,i,hk,hi,hc,-,rfl⟩:=(UU h h0 (n+1) d).1 hd
    have e2:YQ t K k i=(n+1:Nat):=e
    exact hno k i hk hi (by omega)
theorem zjz (h:KOk t K gD) (h0:s0.due=[]) (hk:k<K.ops.length) (hi:i<gD):∀n:Nat,YQ t K k i<=n->(∀k' i',k'<K.ops.length->i'<gD->YQ t K k i<=YQ t K k' i'->YQ t K k' i'<=n->(YX t K k' i').toNat=(YX t K k i).toNat->k'=k/\i'=i) ->
  zep t K logs gD s0 n (YX t K k i).toNat=ze8 t K logs gD s0 k i:=by
 have hcy:=(xi h hk i).1
 have hwt:=h.wt (zp K.ops k).o
 intro n
 induction n with
 | zero=>intro hd;unfold YQ at hd;omega
 | succ n ih =>
   intro hd hone
   rw [zk0]
   by_cases e:YQ t K k i=(n+1:Nat)
   ·refine zuh _ (Nat.le_refl _) (fun d hdd e1 e2=>?_) ?_
    ·obtain⟨k',i',hk',hi',hc,-,rfl⟩:=(UU h h0 (n+1) d).1 hdd
     have e3:YQ t K k' i'=(n+1:Nat):=e1
     obtain⟨rfl,rfl⟩:=hone k' i' hk' hi' (by omega) (by omega) e2
     rfl
    ·have hin:evE t K logs gD s0 k i∈(zJ t K logs gD s0 (n+1)).due:=(UU h h0 (n+1) _).2 ⟨k,i,hk,hi,by unfold YQ at e;omega,by omega,rfl⟩
     obtain⟨j,hj,hje⟩:=zv5 hin
     exact⟨j,hj,by rw [hje];exact e,by rw [hje];rfl⟩
   ·rw [zb1 _ (Nat.le_refl _) fun d hdd e1 e2=>?_]
    ·exact ih (by omega) fun k' i' hk' hi' h1 h2 h3=>hone k' i' hk' hi' h1 (by omega) h3
    ·obtain⟨k',i',hk',hi',hc,-,rfl⟩:=(UU h h0 (n+1) d).1 hdd
     have e3:YQ t K k' i'=(n+1:Nat):=e1
     obtain⟨rfl,rfl⟩:=hone k' i' hk' hi' (by omega) (by omega) e2
     omega
end
section
def zl2 (K:Kn) (logs:List Int) (k i:Nat):Nat:=(idx (zp K.ops k).sp (zp K.ops k).pl i (nth logs (zp K.ops k).ar.toNat)).toNat
def zl7 (K:Kn) (logs:List Int) (a b k i:Nat):Prop:=(zp K.ops k).o=4/\(zp K.ops k).ar.toNat=a/\zl2 K logs k i=b
variable {t:Tg} {K:Kn} {logs:List Int} {gD:Nat} {s0:Kst}
theorem zao (h:KOk t K gD) (hk:k<K.ops.length) (i:Nat):Y0 logs K.pc (yZ K k i) (zp K.ops k)=zl2 K logs k i:=by
 obtain⟨-,h5,-⟩:=xi h hk i
 unfold Y0 zl2
 rw [h5,show (zp K.ops k).sg+(i:Int) - (zp K.ops k).sg=i by omega]
theorem zy8 {tu now:Int} {f:Nat->Int} {m:Nat->Nat->Int}:∀k,(∀j,j<k->YJ K.pc tu now (zp K.ops j)=true->(zp K.ops j).o=4->¬((zp K.ops j).ar.toNat=a/\Y0 logs K.pc now (zp K.ops j)=b))->(YF t K logs tu now f m q k).nx a b=q.nx a b:=by
 intro k
 induction k with
 | zero=>exact fun _=>rfl
 | succ k ih =>
   intro h
   have ih':=ih fun j hj=>h j (by omega)
   show (opK t logs K.pc tu now f m (YF t K logs tu now f m q k) (zp K.ops k)).nx a b=_
   unfold opK
   by_cases ha:YJ K.pc tu now (zp K.ops k)=true
   ·rw [if_pos ha]
    show (if (zp K.ops k).o=4 then (_:Nat->Nat->Int) else _) a b=_
    by_cases ho:(zp K.ops k).o=4
    ·rw [if_pos ho]
     unfold xE
     rw [if_neg fun e=>h k (by omega) ha ho ⟨e.1.symm,e.2.symm⟩,ih']
    ·rw [if_neg ho,ih']
   ·rw [if_neg ha,ih']
theorem yad {tu now:Int} {f:Nat->Int} {m:Nat->Nat->Int} {v:Int}:∀k,(∀j,j<k->YJ K.pc tu now (zp K.ops j)=true->(zp K.ops j).o=4->(zp K.ops j).ar.toNat=a->Y0 logs K.pc now (zp K.ops j)=b->UK logs t.r K.pc now f m (zp K.ops j)=v) ->
  (∃j,j<k/\YJ K.pc tu now (zp K.ops j)=true/\(zp K.ops j).o=4/\(zp K.ops j).ar.toNat=a/\Y0 logs K.pc now (zp K.ops j)=b)->(YF t K logs tu now f m q k).nx a b=v:=by
 intro k
 induction k with
 | zero=>rintro _ ⟨j,hj,_⟩;omega
 | succ k ih =>
   rintro h ⟨j,hj,h1,h2,h3,h4⟩
   show (opK t logs K.pc tu now f m (YF t K logs tu now f m q k) (zp K.ops k)).nx a b=_
   unfold opK
   by_cases ha:YJ K.pc tu now (zp K.ops k)=true
   ·rw [if_pos ha]
    show (if (zp K.ops k).o=4 then (_:Nat->Nat->Int) else _) a b=_
    by_cases ho:(zp K.ops k).o=4
    ·rw [if_pos ho]
     unfold xE
     by_cases e:a=(zp K.ops k).ar.toNat/\b=Y0 logs K.pc now (zp K.ops k)
     ·rw [if_pos e];exact h k (by omega) ha ho e.1.symm e.2.symm
     ·rw [if_neg e]
      refine ih (fun j hj=>h j (by omega)) ⟨j,?_,h1,h2,h3,h4⟩
      by_cases ej:j=k
      ·subst ej;exact absurd ⟨h3.symm,h4.symm⟩ e
      ·omega
    ·rw [if_neg ho]
     refine ih (fun j hj=>h j (by omega)) ⟨j,?_,h1,h2,h3,h4⟩
     by_cases ej:j=k
     ·subst ej;exact absurd h2 ho
     ·omega
   ·rw [if_neg ha]
    refine ih (fun j hj=>h j (by omega)) ⟨j,?_,h1,h2,h3,h4⟩
    by_cases ej:j=k
    ·subst ej;exact absurd h1 ha
    ·omega
theorem zzg (n:Nat):(zJ t K logs gD s0 (n+1)).m=if Zr K gD<=n then (zJ t K logs gD s0 n).m else (YF t K logs gD n (zep t K logs gD s0 n) (zJ t K logs gD s0 n).m ⟨(zJ t K logs gD s0 n).m,yR n (zJ t K logs gD s0 n).due (zJ t K logs gD s0 n).due.length⟩ K.ops.length).nx:=by
 show (Vj t K logs gD n (zJ t K logs gD s0 n)).m=_
 unfold Vj
 split <;> rfl
theorem zjk (h:KOk t K gD) (hno:∀k i,k<K.ops.length->i<gD->zl7 K logs a b k i->yZ K k i≠n):(zJ t K logs gD s0 (n+1)).m a b=(zJ t K logs gD s0 n).m a b:=by
 rw [zzg]
 split
 ·rfl
 ·refine zy8 _ fun j hj ha ho e=>?_
  obtain⟨i,hi,en⟩:=(UP h hj).1 ha
  refine hno j i hj hi ⟨ho,e.1,?_⟩ en.symm
  rw [<-zao h hj,<-en]
  exact e.2
theorem zfp (h:KOk t K gD):∀n:Nat,(∀k i,k<K.ops.length->i<gD->zl7 K logs a b k i->n<=yZ K k i)->(zJ t K logs gD s0 n).m a b=s0.m a b:=by
 intro n
 induction n with
 | zero=>exact fun _=>rfl
 | succ n ih =>
   intro hno
   rw [zjk h fun k i hk hi hs=>by have:=hno k i hk hi hs;omega]
   exact ih fun k i hk hi hs=>by have:=hno k i hk hi hs;omega
theorem zjl (h:KOk t K gD) (hk:k<K.ops.length) (hi:i<gD) (hs:zl7 K logs a b k i):∀n:Nat,yZ K k i<n->(∀k' i',k'<K.ops.length->i'<gD->zl7 K logs a b k' i'->yZ K k i<=yZ K k' i'->yZ K k' i'<n->k'=k/\i'=i) ->
  (zJ t K logs gD s0 n).m a b=ze8 t K logs gD s0 k i:=by
 have hcy:=(xi h hk i).1
 have hla:=U1 h hk hi
 intro n
 induction n with
 | zero=>intro hd;omega
 | succ n ih =>
   intro hd hone
   by_cases e:yZ K k i=n
   ·have hn:(n:Int).toNat=n:=Int.toNat_natCast n
    rw [zzg,if_neg (by omega)]
    refine yad _ (fun j hj ha ho e1 e2=>?_) ⟨k,hk,(UP h hk).2 ⟨i,hi,e.symm⟩,hs.1,hs.2.1,?_⟩
    ·obtain⟨i',hi',en⟩:=(UP h hj).1 ha
     have hs2:zl7 K logs a b j i':=⟨ho,e1,by rw [<-zao h hj,<-en];exact e2⟩
     obtain⟨rfl,rfl⟩:=hone j i' hj hi' hs2 (by omega) (by omega)
     unfold ze8
     rw [e,hn]
    ·rw [<-e,zao h hk];exact hs.2.2
   ·rw [zjk h fun k' i' hk' hi' hs' e2=>?_]
    ·exact ih (by omega) fun k' i' hk' hi' hs' h1 h2=>hone k' i' hk' hi' hs' h1 (by omega)
    ·obtain⟨rfl,rfl⟩:=hone k' i' hk' hi' hs' (by omega) (by omega)
     omega
end
section
theorem Xm {p:Nat->Nat->Prop} (h0:p 0 0) (hs:∀i k,k<n->p i k->p i (k+1)) (ht:∀i,p i n->p (i+1) 0):∀i k,k<=n->p i k:=by
 have h1:∀i,p i 0->∀k,k<=n->p i k:=by
  intro i hi k
  induction k with
  | zero=>exact fun _=>hi
  | succ k ih=>exact fun hk=>hs i k (by omega) (ih (by omega))
 have h2:∀i,p i 0:=by
  intro i
  induction i with
  | zero=>exact h0
  | succ i ih=>exact ht i (h1 i ih n (Nat.le_refl _))
 exact fun i k hk=>h1 i (h2 i) k hk
def atS (L:Lp) (B M:List (List Int)) (i k:Nat):Sq:=zal L B i k (Vl L B i (xV M))
def znn (L:Lp) (B M:List (List Int)) (i k:Nat):Int:=comes L B i (atS L B M i k) (zc L.b k)
def Uu (L:Lp) (a b i k:Nat):Prop:=(zc L.b k).o=4/\(zc L.b k).ar.toNat=a/\yU L i (zc L.b k)=b
def yC (i k i' k':Nat):Prop:=i<i'\/(i=i'/\k<k')
variable {L:Lp} {B M:List (List Int)}
theorem zgy (i k:Nat):atS L B M i (k+1)=Zu L B i (atS L B M i k) k:=rfl
theorem zgz (i:Nat):atS L B M (i+1) 0=atS L B M i L.b.length:=rfl
theorem zt9 (i:Nat):Vl L B i (xV M)=atS L B M i 0:=rfl
theorem zwr:∀i k,k<=L.b.length->∀i' k',k'<L.b.length->yC i' k' i k->(atS L B M i k).val i' k'=znn L B M i' k':=by
 refine Xm ?_ ?_ ?_
 ·intro i' k' _ h;unfold yC at h;omega
 ·intro i k hk ih i' k' hk' h
  rw [zgy]
  show xE (atS L B M i k).val i k (comes L B i (atS L B M i k) (zc L.b k)) i' k'=_
  by_cases e:i'=i/\k'=k
  ·obtain⟨rfl,rfl⟩:=e
   rw [zom];rfl
  ·unfold xE
   rw [if_neg e]
   exact ih i' k' hk' (by unfold yC at h ⊢;omega)
 ·intro i ih i' k' hk' h
  rw [zgz]
  exact ih i' k' hk' (by unfold yC at h ⊢;omega)
theorem zdt:∀i k,k<=L.b.length->(∀i' k',k'<L.b.length->yC i' k' i k->¬Uu L a b i' k')->(atS L B M i k).mem a b=nth (zv M a) b:=by
 refine Xm ?_ ?_ ?_
 ·exact fun _=>rfl
 ·intro i k hk ih h
  rw [zgy]
  show (if (zc L.b k).o=4 then xE (atS L B M i k).mem (zc L.b k).ar.toNat (yU L i (zc L.b k)) (comes L B i (atS L B M i k) (zc L.b k)) else (atS L B M i k).mem) a b=_
  have ih':=ih fun i' k' hk' h2=>h i' k' hk' (by unfold yC at h2 ⊢;omega)
  split
  ·next ho =>
   unfold xE
   rw [if_neg fun e=>h i k hk (by unfold yC;omega) ⟨ho,e.1.symm,e.2.symm⟩,ih']
  ·exact ih'
 ·intro i ih h
  rw [zgz]
  exact ih fun i' k' hk' h2=>h i' k' hk' (by unfold yC at h2 ⊢;omega)
theorem zgb {i0 k0:Nat} (hk0:k0<L.b.length) (hs:Uu L a b i0 k0):∀i k,k<=L.b.length->yC i0 k0 i k->(∀i' k',k'<L.b.length->Uu L a b i' k'->yC i0 k0 i' k'->¬yC i' k' i k)->(atS L B M i k).mem a b=znn L B M i0 k0:=by
 refine Xm ?_ ?_ ?_
 ·intro h;unfold yC at h;omega
 ·intro i k hk ih h hno
  rw [zgy]
  show (if (zc L.b k).o=4 then xE (atS L B M i k).mem (zc L.b k).ar.toNat (yU L i (zc L.b k)) (comes L B i (atS L B M i k) (zc L.b k)) else (atS L B M i k).mem) a b=_
  by_cases e:i0=i/\k0=k
  ·obtain⟨rfl,rfl⟩:=e
   rw [if_pos hs.1]
   unfold xE
   rw [if_pos ⟨hs.2.1.symm,hs.2.2.symm⟩];rfl
  ·have h3:yC i0 k0 i k:=by unfold yC at h ⊢;omega
   have ih':=ih h3 fun i' k' hk' h2 h4 h5=>hno i' k' hk' h2 h4 (by unfold yC at h5 ⊢;omega)
   split
   ·next ho =>
    unfold xE
    rw [if_neg fun e2=>hno i k hk ⟨ho,e2.1.symm,e2.2.symm⟩ h3 (by unfold yC;omega),ih']
   ·exact ih'
 ·intro i ih h hno
  rw [zgz]
  exact ih (by unfold yC at h ⊢;omega) fun i' k' hk' h2 h4 h5=>hno i' k' hk' h2 h4 (by unfold yC at h5 ⊢;omega)
theorem zod (L:Lp) (a b:Nat):∀i k,k<=L.b.length->(∀i' k',k'<L.b.length->yC i' k' i k->¬Uu L a b i' k')\/∃i0 k0,k0<L.b.length/\Uu L a b i0 k0/\yC i0 k0 i k/\∀i' k',k'<L.b.length->Uu L a b i' k'->yC i0 k0 i' k'->¬yC i' k' i k:=by
 refine Xm ?_ ?_ ?_
 ·exact .inl fun i' k' _ h=>by unfold yC at h;omega
 ·intro i k hk ih
  by_cases hs:Uu L a b i k
  ·exact .inr ⟨i,k,hk,hs,by unfold yC;omega,fun i' k' hk' _ h1 h2=>by unfold yC at h1 h2;omega⟩
  ·rcases ih with ih | ⟨i0,k0,h1,h2,h3,h4⟩
   ·refine .inl fun i' k' hk' h=>?_
    by_cases e:i'=i/\k'=k
    ·obtain⟨rfl,rfl⟩:=e;exact hs
    ·exact ih i' k' hk' (by unfold yC at h ⊢;omega)
   ·refine .inr ⟨i0,k0,h1,h2,by unfold yC at h3 ⊢;omega,fun i' k' hk' h5 h6 h7=>?_⟩
    by_cases e:i'=i/\k'=k
    ·obtain⟨rfl,rfl⟩:=e;exact hs h5
    ·exact h4 i' k' hk' h5 h6 (by unfold yC at h7 ⊢;omega)
 ·intro i ih
  rcases ih with ih | ⟨i0,k0,h1,h2,h3,h4⟩
  ·exact .inl fun i' k' hk' h=>ih i' k' hk' (by unfold yC at h ⊢;omega)
  ·exact .inr ⟨i0,k0,h1,h2,by unfold yC at h3 ⊢;omega,fun i' k' hk' h5 h6 h7=>h4 i' k' hk' h5 h6 (by unfold yC at h7 ⊢;omega)⟩
end
theorem ybq {L:Lp} {t:Tg} (h:isD L t fr to bk wt=true):∀k,wt<k->(⟨fr,to,bk,wt⟩:Ed)∈wtD L t fr to bk k:=by
 intro k
 induction k with
 | zero=>intro h;omega
 | succ k ih =>
   intro hk
   show _∈(if isD L t fr to bk k=true then wtD L t fr to bk k++[⟨fr,to,bk,k⟩] else wtD L t fr to bk k)
   by_cases e:wt=k
   ·subst e;rw [if_pos h];simp
   ·have:=ih (by omega)
    split
    ·exact List.mem_append.2 (.inl this)
    ·exact this
theorem zo4 {L:Lp} {t:Tg} (h:isD L t fr to bk wt=true) (hf:fr<L.b.length) (ht:to<L.b.length) (hb:bk<33) (hw:wt<7):(⟨fr,to,bk,wt⟩:Ed)∈zi L t:=by
 have h1:∀k,bk<k->(⟨fr,to,bk,wt⟩:Ed)∈bkD L t fr to k:=by
  intro k
  induction k with
  | zero=>intro h;omega
  | succ k ih =>
    intro hk
    show _∈bkD L t fr to k++wtD L t fr to k 7
    by_cases e:bk=k
    ·subst e;exact List.mem_append.2 (.inr (ybq h 7 hw))
    ·exact List.mem_append.2 (.inl (ih (by omega)))
 have h2:∀k,to<k->(⟨fr,to,bk,wt⟩:Ed)∈toD L t fr k:=by
  intro k
  induction k with
  | zero=>intro h;omega
  | succ k ih =>
    intro hk
    show _∈toD L t fr k++bkD L t fr k 33
    by_cases e:to=k
    ·subst e;exact List.mem_append.2 (.inr (h1 33 hb))
    ·exact List.mem_append.2 (.inl (ih (by omega)))
 have h3:∀k,fr<k->(⟨fr,to,bk,wt⟩:Ed)∈frD L t k:=by
  intro k
  induction k with
  | zero=>intro h;omega
  | succ k ih =>
    intro hk
    show _∈frD L t k++toD L t k L.b.length
    by_cases e:fr=k
    ·subst e;exact List.mem_append.2 (.inr (h2 _ ht))
    ·exact List.mem_append.2 (.inl (ih (by omega)))
 exact h3 _ hf
theorem zb4 (s p r q size:Int):(s*(r+size*q)+p) % size=(s*r+p) % size:=by
 have e:s*(r+size*q)+p=s*r+p+size*(s*q):=by
  rw [Int.mul_add,<-Int.mul_assoc,Int.mul_comm s size,Int.mul_assoc];omega
 rw [e,Int.add_mul_emod_self_left]
theorem zv4 {a b:St} (hs:0<size) (h:(a.sp*i+a.pl) % size=(b.sp*((i:Int)+d)+b.pl) % size):yE a b d size=true:=by
 refine Z0 (Nat.mod_lt i hs) (decide_eq_true ?_)
 have e:(i:Int)=((i % size:Nat):Int)+size*(i / size:Nat):=by
  have:=Nat.mod_add_div i size
  rw [<-Int.natCast_mul]
  omega
 rw [e,zb4,show ((i % size:Nat):Int)+size*(i / size:Nat)+d=((i % size:Nat):Int)+d+size*(i / size:Nat) by omega,zb4] at h
 exact h
theorem zmg {a b:St} (h:yE a b (d+size) size=true):yE a b d size=true:=by
 obtain⟨k,hk,h2⟩:=XY.1 h
 refine XY.2 ⟨k,hk,decide_eq_true ?_⟩
 have h3:=of_decide_eq_true h2
 rw [h3,show (k:Int)+(d+size:Nat)=(k:Int)+d+size*1 by omega,zb4]
theorem zql {p:Nat->Bool}:∀n,p n=true->∃m,m<=n/\p m=true/\∀i,i<m->p i=false:=by
 intro n
 induction n using Nat.strongRecOn with
 | _ n ih =>
   intro h
   by_cases e:∃i,i<n/\p i=true
   ·obtain⟨i,hi,h2⟩:=e
    obtain⟨m,h3,h4,h5⟩:=ih i hi h2
    exact⟨m,by omega,h4,h5⟩
   ·refine⟨n,Nat.le_refl _,h,fun i hi=>?_⟩
    cases hp:p i
    ·rfl
    ·exact absurd ⟨i,hi,hp⟩ e
theorem zu2 {a b:St} {lo:Nat} (hs:0<size) (hl:lo<=1) (hd:lo<=d) (h:yE a b d size=true):∃bk,bk<=d/\bk<=size/\ZM a b lo bk size=true:=by
 obtain⟨m,h1,h2,h3⟩:=zql (p:=fun m=>decide (lo<=m) && yE a b m size) d (by show (decide (lo<=d) && yE a b d size)=true;rw [h,decide_eq_true hd];rfl)
 have h4:lo<=m/\yE a b m size=true:=by simpa using h2
 have h5:m<=size:=by
  by_cases e:m<=size
  ·exact e
  ·exfalso
   have h6:=h3 (m - size) (by omega)
   have h7:yE a b (m - size) size=true:=zmg (by rw [Nat.sub_add_cancel (by omega)];exact h4.2)
   have h8:(decide (lo<=m - size) && yE a b (m - size) size)=false:=h6
   rw [h7,decide_eq_true (by omega)] at h8
   cases h8
 refine⟨m,h1,h5,?_⟩
 unfold ZM
 rw [decide_eq_true h4.1,decide_eq_true h5,h4.2]
 refine (Bool.true_and _).trans (zL fun i hi=>?_)
 have h6:(decide (lo<=i) && yE a b i size)=false:=h3 i hi
 by_cases e:i<lo
 ·rw [decide_eq_true e];rfl
 ·rw [decide_eq_true (by omega)] at h6
  have h7:yE a b i size=false:=h6
  rw [h7];simp
theorem Ye {L:Lp} (hm:zY L=true) (hk:k<L.b.length) (ho:(zc L.b k).o=3\/(zc L.b k).o=4):0<=(zc L.b k).ar/\(zc L.b k).ar<L.l.length/\-64<=(zc L.b k).sp/\(zc L.b k).sp<=64/\-64<=(zc L.b k).pl/\(zc L.b k).pl<=64/\0<=nth L.l (zc L.b k).ar.toNat/\nth L.l (zc L.b k).ar.toNat<=5:=by
 obtain⟨-,-,-,-,h5,-,h7⟩:=zw hm
 have h:=zo h7 k hk
 have hw:xP L.l.length (zc L.b k).ar (zc L.b k).sp (zc L.b k).pl=true:=by
  have h':yH L.l.length L.b.length k (zc L.b k)=true:=h
  unfold yH at h'
  rcases ho with ho | ho
  ·rw [if_neg (by omega),if_neg (by omega),if_pos ho] at h'
   simp only [Bool.and_eq_true] at h'
   exact h'.2
  ·rw [if_neg (by omega),if_neg (by omega),if_neg (by omega),if_pos ho] at h'
   simp only [Bool.and_eq_true] at h'
   exact h'.1.2
 unfold xP at hw
 simp only [Bool.and_eq_true] at hw
 have h1:=zx.1 hw.1.1
 have h2:=zx.1 hw.1.2
 have h3:=zx.1 hw.2
 have h4:=zx.1 (zo h5 (zc L.b k).ar.toNat (by omega))
 exact⟨h1.1,by omega,h2.1,h2.2,h3.1,h3.2,h4.1,h4.2⟩
theorem zl4 {L:Lp} (hm:zY L=true) (hk:k<L.b.length) (hi:i<=200) (ho:(zc L.b k).o=3\/(zc L.b k).o=4):(yU L i (zc L.b k):Int)=((zc L.b k).sp*i+(zc L.b k).pl) % (xY L (zc L.b k):Nat):=by
 obtain⟨h1,h2,h3,h4,h5,h6,h7,h8⟩:=Ye hm hk ho
 rw [<-VR]
 unfold idx
 rw [if_pos (by omega)]
 rfl
theorem zv6 {L:Lp} (t:Tg) (hm:zY L=true) (hx:x<L.b.length) (hy:y<L.b.length) (hi:i<=200) (hi':i'<=200) (hd:Xd (zc L.b x) (zc L.b y)=true) (ha:yC i x i' y) (hw:yU L i (zc L.b x)=yU L i' (zc L.b y)) :
  ∃bk wt:Nat,i+bk<=i'/\(wt:Int)=Zn (zc L.b x)/\(⟨x,y,bk,wt⟩:Ed)∈zi L t:=by
 have hd':=hd
 unfold Xd ZW at hd'
 simp only [Bool.and_eq_true,Bool.or_eq_true,decide_eq_true_eq] at hd'
 obtain⟨⟨⟨ox,oy⟩,ear⟩,-⟩:=hd'
 have mx:=zl4 hm hx hi ox
 have my:=zl4 hm hy hi' oy
 obtain⟨-,-,-,-,-,-,h7,h8⟩:=Ye hm hx ox
 have esz:xY L (zc L.b y)=xY L (zc L.b x):=by unfold xY;rw [ear]
 have hs0:0<xY L (zc L.b x):=Nat.two_pow_pos _
 have hs5:xY L (zc L.b x)<=32:=by
  have h2:2 ^ (nth L.l (zc L.b x).ar.toNat).toNat<=2 ^ 5:=Nat.pow_le_pow_right (by omega) (by omega)
  exact h2
 have hle:i<=i':=by unfold yC at ha;omega
 have hmeet:yE (zc L.b x) (zc L.b y) (i' - i) (xY L (zc L.b x))=true:=by
  refine zv4 hs0 (i:=i) ?_
  rw [show (i:Int)+((i' - i:Nat):Int)=(i':Int) by omega,<-mx,hw,my,esz]
 obtain⟨bk,hb1,hb2,hb3⟩:=zu2 (lo:=Z4 x y) hs0 (by unfold Z4;split <;> omega) (by unfold Z4;unfold yC at ha;split <;> omega) hmeet
 have hwd:∃wt:Nat,(wt:Int)=Zn (zc L.b x)/\wt<7:=by
  unfold Zn
  split
  ·exact⟨1,rfl,by omega⟩
  ·exact⟨0,rfl,by omega⟩
 obtain⟨wt,hwt,hw7⟩:=hwd
 refine⟨bk,wt,by omega,hwt,zo4 ?_ hx hy (by omega) hw7⟩
 unfold isD
 rw [hd,hb3,decide_eq_true hwt]
 simp
section
theorem zwz:∀(n:Nat) (f:Nat->Nat),(∀s,s<n->f s<n)->(∀s s',s<n->s'<n->f s=f s'->s=s')->∀k,k<n->∃s,s<n/\f s=k:=by
 intro n
 induction n with
 | zero=>intro f _ _ k hk;omega
 | succ n ih =>
   intro f hf hi k hk
   have hg:=ih (fun s=>if f s=n then f n else f s) (fun s hs=>by
    show (if f s=n then f n else f s)<n
    split
    ·next e =>
     by_cases e2:f n=n
     ·have:=hi s n (by omega) (by omega) (by omega);omega
     ·have:=hf n (by omega);omega
    ·next e=>have:=hf s (by omega);omega) (fun s s' hs hs' e=>by
    have e':(if f s=n then f n else f s)=(if f s'=n then f n else f s'):=e
    split at e'
    ·next e1 =>
     split at e'
     ·next e2=>exact hi s s' (by omega) (by omega) (by omega)
     ·next e2=>have:=hi n s' (by omega) (by omega) e';omega
    ·next e1 =>
     split at e'
     ·next e2=>have:=hi s n (by omega) (by omega) e';omega
     ·next e2=>exact hi s s' (by omega) (by omega) e')
   by_cases e:k=f n
   ·exact⟨n,by omega,e.symm⟩
   ·by_cases e2:k=n
    ·have h3:f n<n:=by have:=hf n (by omega);omega
     obtain⟨s,hs,h4⟩:=hg (f n) h3
     have h4':(if f s=n then f n else f s)=f n:=h4
     split at h4'
     ·next e3=>exact⟨s,by omega,by omega⟩
     ·next e3=>have:=hi s n (by omega) (by omega) h4';omega
    ·obtain⟨s,hs,h4⟩:=hg k (by omega)
     have h4':(if f s=n then f n else f s)=k:=h4
     split at h4'
     ·exact absurd h4'.symm e
     ·exact⟨s,by omega,h4'⟩
section
variable (t:Tg) (K:Kn) (O:List Int)
def yF (s:Nat):Nat:=(nth O s).toNat
def opJ (s:Nat):Kop:=zp K.ops (yF O s)
def yD (s:Nat):Int:=(opJ K O s).sl+K.pc*(opJ K O s).sg
def zF (s:Nat):Int:=yD K O s+zO t (opJ K O s).o
def zr (s:Nat):Int:=(opJ K O s).d+(opJ K O s).sg
end
structure xh (L:Lp) (t:Tg) (K:Kn) (O:List Int):Prop where
 may:zY L=true
 mayt:yj t=true
 mayk:Yv t K L.l=true
 nops:K.ops.length=L.b.length
 ord:∀s,s<L.b.length->yF O s<L.b.length
 inj:∀s s',s<L.b.length->s'<L.b.length->yF O s=yF O s'->s=s'
 same:∀s,s<L.b.length->(opJ K O s).o=(zc L.b s).o/\(opJ K O s).ar=(zc L.b s).ar/\(opJ K O s).sp=(zc L.b s).sp/\(opJ K O s).pl=(zc L.b s).pl/\(opJ K O s).nn=(zc L.b s).nn
 edge:∀e∈zi L t,yD K O e.fr.toNat+e.wt<=yD K O e.to.toNat+e.bk*K.pc
 nameA:∀s,s<L.b.length->(zc L.b s).o=4\/10<(zc L.b s).o->(opJ K O s).a=(zr K O (zc L.b s).xa.toNat - (zc L.b s).xb - (opJ K O s).sg) % t.r
 nameB:∀s,s<L.b.length->10<(zc L.b s).o->(opJ K O s).b=(zr K O (zc L.b s).ya.toNat - (zc L.b s).yb - (opJ K O s).sg) % t.r
 kept:∀s,s<L.b.length->∀r∈zj (zc L.b s),∀m,m<L.b.length->∀j:Int,¬(m=r.1.toNat/\j=0)->(zr K O m+j - zr K O r.1.toNat) % t.r=0 ->
  (zF t K O m+j*K.pc<zF t K O r.1.toNat\/yD K O s+r.2*K.pc<zF t K O m+j*K.pc)/\(0<r.2->0<j->yD K O s+r.2*K.pc<zF t K O m+j*K.pc)
 told:∀a∈L.o,∀m,m<L.b.length->∀j:Int,j<=0->¬(m=a.toNat/\j=0)->(zr K O m+j - zr K O a.toNat) % t.r=0->zF t K O m+j*K.pc<zF t K O a.toNat
def UM (L:Lp) (t:Tg) (K:Kn) (O:List Int) (B:List (List Int)) (R:List Int):Prop :=
 ∀s,s<L.b.length->∀r∈zj (zc L.b s),∀q:Int,1<=q->q<=r.2->nth R ((zr K O r.1.toNat - q) % t.r).toNat=nth (zv B r.1.toNat) (q - 1).toNat
variable {L:Lp} {t:Tg} {K:Kn} {O:List Int} {B M:List (List Int)} {R:List Int} {gD:Nat}
theorem xh.ok (h:xh L t K O) (h1:1<=gD):KOk t K gD:=by
 have hk:=h.mayk
 unfold Yv at hk
 simp only [Bool.and_eq_true] at hk
 obtain⟨⟨⟨⟨hk1,hk2⟩,hk3⟩,hk4⟩,hk5⟩:=hk
 have h2:=zx.1 hk2
 have h3:=zx.1 hk3
 obtain⟨u1,u2,u3,hr1,-⟩:=ym hk1
 refine⟨h2.1,h3.1,hr1,fun k hk=>?_,fun o=>?_,h1⟩
 ·have h6:=zo hk5 k hk
  unfold VF xv at h6
  simp only [Bool.and_eq_true] at h6
  have h7:=zx.1 h6.1.1.1.1.1
  have h8:=zx.1 h6.1.1.1.1.2
  omega
 ·have u1:=yn u1
  have u2:=yn u2
  have u3:=yn u3
  unfold xW
  split
  ·omega
  ·split <;> omega
theorem xh.cyc (h:xh L t K O) (s i:Nat):yZ K (yF O s) i=yD K O s+i*K.pc:=by
 unfold yZ yD opJ
 rw [Int.mul_add,Int.mul_comm K.pc (i:Int)]
 omega
theorem xh.wait (h:xh L t K O) (o:Int):zO t o=xW t (zW o):=by unfold zO;rw [if_pos h.mayt]
theorem xh.due (h:xh L t K O) (s i:Nat):YQ t K (yF O s) i=zF t K O s+i*K.pc:=by
 unfold YQ zF
 rw [h.cyc,h.wait]
 show _+xW t (zW (opJ K O s).o)=_
 omega
theorem xh.place (h:xh L t K O) (s i:Nat):YX t K (yF O s) i=(zr K O s+i) % t.r:=by
 unfold YX zr opJ
 rw [Int.add_assoc]
theorem xh.hit (h:xh L t K O) (hk:k<K.ops.length):∃s,s<L.b.length/\yF O s=k:=zwz _ _ h.ord h.inj k (by rw [<-h.nops];exact hk)
theorem xh.lt (h:xh L t K O) (hs:s<L.b.length):yF O s<K.ops.length:=by rw [h.nops];exact h.ord s hs
theorem zhr {r x y:Int} (hr:1<=r) (h:(x % r).toNat=(y % r).toNat):(x - y) % r=0:=by
 have h1:=Int.emod_nonneg x (by omega:r≠0)
 have h2:=Int.emod_nonneg y (by omega:r≠0)
 exact Int.emod_eq_emod_iff_emod_sub_eq_zero.1 (by omega)
theorem xh.ref (h:xh L t K O) (h1:1<=gD) (he:UM L t K O B R) (hs:s<L.b.length) (hi:i<gD) {xa xb:Int} (hx:(xa,xb)∈zj (zc L.b s)) (hr0:0<=xa) (hr1:xa<L.b.length) (hr2:0<=xb) (hr3:xb=0->xa<s)
  (hed:zF t K O xa.toNat<=yD K O s+xb*K.pc)
  {A:Int} (hA:A=(zr K O xa.toNat - xb - (opJ K O s).sg) % t.r)
  (ih:∀s' i',s'<L.b.length->i'<gD->yZ K (yF O s') i'<yZ K (yF O s) i->ze8 t K L.l gD (ZE R M) (yF O s') i'=znn L B M i' s') :
  zmz (zep t K L.l gD (ZE R M) (yZ K (yF O s) i).toNat) t.r A (yZ K (yF O s) i / K.pc)=UE B (atS L B M i s).val i xa xb:=by
 have ok:=h.ok h1
 have hr:=ok.r
 have hpc:=ok.pc
 obtain⟨hc0,hc1,-⟩:=xi ok (h.lt hs) i
 have hxn:xa.toNat<L.b.length:=by omega
 have ereg:(A+yZ K (yF O s) i / K.pc) % t.r=(zr K O xa.toNat+((i:Int) - xb)) % t.r:=by
  rw [hc1,hA,Int.emod_add_emod]
  congr 1
  unfold opJ
  omega
 unfold zmz
 rw [ereg]
 unfold UE
 have hk:=h.kept s hs _ hx
 dsimp only at hk
 by_cases hb:xb<=(i:Int)
 ·rw [if_pos hb]
  have hib:((i:Int) - xb).toNat<gD:=by omega
  have eib:((((i:Int) - xb).toNat:Nat):Int)=(i:Int) - xb:=by omega
  have hdue:YQ t K (yF O xa.toNat) ((i:Int) - xb).toNat<=yZ K (yF O s) i:=by
   rw [h.due,h.cyc,eib,Int.sub_mul]
   omega
  have hah:yC ((i:Int) - xb).toNat xa.toNat i s:=by
   unfold yC
   by_cases e:xb=0
   ·have:=hr3 e;omega
   ·omega
  have hval:=zwr (L:=L) (B:=B) (M:=M) i s (by omega) ((i:Int) - xb).toNat xa.toNat hxn hah
  rw [hval,<-ih xa.toNat ((i:Int) - xb).toNat hxn hib (by have:=ok.wt (zp K.ops (yF O xa.toNat)).o;unfold YQ at hdue;omega)]
  have epl:YX t K (yF O xa.toNat) ((i:Int) - xb).toNat=(zr K O xa.toNat+((i:Int) - xb)) % t.r:=by rw [h.place,eib]
  rw [<-epl]
  refine zjz ok rfl (h.lt hxn) hib _ (by omega) fun k' i' hk' hi' g1 g2 g3=>?_
  obtain⟨m,hm,rfl⟩:=h.hit hk'
  by_cases e:m=xa.toNat/\(i':Int) - ((i:Int) - xb)=0
  ·obtain⟨rfl,e2⟩:=e
   exact⟨rfl,by omega⟩
  ·exfalso
   rw [h.place,epl] at g3
   have g4:=zhr hr g3
   have g5:=(hk m hm ((i':Int) - ((i:Int) - xb)) e (by rw [<-g4];congr 1;omega)).1
   rw [h.due,h.due,eib] at g1
   rw [h.due] at g2
   have g6:(i':Int)*K.pc<=yD K O s+i*K.pc - zF t K O m:=by rw [<-h.cyc];omega
   rw [Int.sub_mul,Int.sub_mul] at g5
   rw [Int.sub_mul] at g1
   omega
 ·rw [if_neg hb]
  have hq:=he s hs _ hx (xb - i) (by omega) (by show xb - (i:Int)<=xb;omega)
  dsimp only at hq
  rw [show xb - (i:Int) - 1=xb - i - 1 by omega] at hq
  rw [<-hq,show zr K O xa.toNat - (xb - (i:Int))=zr K O xa.toNat+((i:Int) - xb) by omega]
  refine zry ok rfl _ _ fun k' i' hk' hi' g2 g3=>?_
  obtain⟨m,hm,rfl⟩:=h.hit hk'
  rw [h.place] at g3
  have g4:=zhr hr g3
  have g5:=(hk m hm ((i':Int) - ((i:Int) - xb)) (fun e=>by omega) (by rw [<-g4];congr 1;omega)).2 (by omega) (by omega)
  rw [h.due] at g2
  have g6:(i':Int)*K.pc<=yD K O s+i*K.pc - zF t K O m:=by rw [<-h.cyc];omega
  rw [Int.sub_mul,Int.sub_mul] at g5
  omega
end
section
variable {L:Lp} {t:Tg} {K:Kn} {O:List Int} {B M:List (List Int)} {R:List Int} {gD:Nat}
theorem xh.order (h:xh L t K O) (h1:1<=gD) (hx:x<L.b.length) (hy:y<L.b.length) (hi:i<=200) (hi':i'<=200) (hd:Xd (zc L.b x) (zc L.b y)=true) (ha:yC i x i' y) (hw:yU L i (zc L.b x)=yU L i' (zc L.b y)) :
  yZ K (yF O x) i+Zn (zc L.b x)<=yZ K (yF O y) i':=by
 obtain⟨bk,wt,h2,h3,h4⟩:=zv6 t h.may hx hy hi hi' hd ha hw
 have h5:=h.edge _ h4
 have hpc:=(h.ok h1).pc
 simp only [Int.toNat_natCast] at h5
 rw [h.cyc,h.cyc,<-h3]
 have h6:((i+bk:Nat):Int)*K.pc<=(i':Int)*K.pc:=Int.mul_le_mul_of_nonneg_right (by omega) (by omega)
 rw [Int.natCast_add,Int.add_mul] at h6
 omega
theorem xh.word (h:xh L t K O) (hs:s<L.b.length) (i:Nat):zl2 K L.l (yF O s) i=yU L i (zc L.b s):=by
 obtain⟨eo,ear,esp,epl,enn⟩:=h.same s hs
 unfold opJ at eo ear esp epl enn
 unfold zl2 yU
 rw [esp,epl,ear]
theorem xh.sto (h:xh L t K O) (hs:s<L.b.length) (i:Nat):zl7 K L.l a b (yF O s) i↔Uu L a b i s:=by
 unfold zl7 Uu
 rw [h.word hs]
 obtain⟨eo,ear,-⟩:=h.same s hs
 unfold opJ at eo ear
 rw [eo,ear]
theorem Vm (i k i' k':Nat):yC i k i' k'\/(i=i'/\k=k')\/yC i' k' i k:=by unfold yC;omega
theorem zyu (h1:Uu L a b i x) (h2:Uu L a b i' y) (hm:zY L=true) (hx:x<L.b.length) (hy:y<L.b.length):Xd (zc L.b x) (zc L.b y)=true/\yU L i (zc L.b x)=yU L i' (zc L.b y):=by
 have p1:=Ye hm hx (.inr h1.1)
 have p2:=Ye hm hy (.inr h2.1)
 refine⟨?_,h1.2.2.trans h2.2.2.symm⟩
 unfold Xd ZW
 have e1:=h1.1
 have e2:=h2.1
 have e3:(zc L.b x).ar=(zc L.b y).ar:=by have:=h1.2.1;have:=h2.2.1;omega
 rw [e1,e2,e3]
 simp
theorem xh.stores (h:xh L t K O) (h1:1<=gD) (hx:x<L.b.length) (hy:y<L.b.length) (hi:i<=200) (hi':i'<=200) (s1:Uu L a b i x) (s2:Uu L a b i' y) (ha:yC i x i' y):yZ K (yF O x) i<yZ K (yF O y) i':=by
 obtain⟨hd,hw⟩:=zyu s1 s2 h.may hx hy
 have:=h.order h1 hx hy hi hi' hd ha hw
 unfold Zn at this
 rw [if_pos s1.1] at this
 omega
theorem xh.load (h:xh L t K O) (h1:1<=gD) (h2:gD<=200) (hs:s<L.b.length) (hi:i<gD) (ho:(zc L.b s).o=3)
  (ih:∀s' i',s'<L.b.length->i'<gD->yZ K (yF O s') i'<yZ K (yF O s) i->ze8 t K L.l gD (ZE R M) (yF O s') i'=znn L B M i' s') :
  (zJ t K L.l gD (ZE R M) (yZ K (yF O s) i).toNat).m (zc L.b s).ar.toNat (yU L i (zc L.b s))=(atS L B M i s).mem (zc L.b s).ar.toNat (yU L i (zc L.b s)):=by
 have ok:=h.ok h1
 obtain⟨hc0,-,-⟩:=xi ok (h.lt hs) i
 have pL:=Ye h.may hs (.inl ho)
 have hmem:∀i' m,m<L.b.length->Uu L (zc L.b s).ar.toNat (yU L i (zc L.b s)) i' m->Xd (zc L.b s) (zc L.b m)=true/\Xd (zc L.b m) (zc L.b s)=true:=by
  intro i' m hm hsto
  have p2:=Ye h.may hm (.inr hsto.1)
  have e2:=hsto.1
  have e3:(zc L.b m).ar=(zc L.b s).ar:=by have:=hsto.2.1;omega
  unfold Xd ZW
  rw [ho,e2,e3]
  simp
 have later:∀i' m,m<L.b.length->i'<gD->Uu L (zc L.b s).ar.toNat (yU L i (zc L.b s)) i' m->¬yC i' m i s->yZ K (yF O s) i<=yZ K (yF O m) i':=by
  intro i' m hm hi' hsto hna
  rcases Vm i' m i s with e | ⟨-,e⟩ | e
  ·exact absurd e hna
  ·exfalso
   have:=hsto.1
   rw [e,ho] at this
   omega
  ·have:=h.order h1 hs hm (by omega) (by omega) (hmem i' m hm hsto).1 e hsto.2.2.symm
   unfold Zn at this
   rw [if_neg (by omega)] at this
   omega
 rcases zod L (zc L.b s).ar.toNat (yU L i (zc L.b s)) i s (by omega) with hno | ⟨i0,k0,hk0,hs0,ha0,hl0⟩
 ·rw [zdt i s (by omega) hno,zfp ok _ fun k' i' hk' hi' hsto=>?_]
  ·rfl
  ·obtain⟨m,hm,rfl⟩:=h.hit hk'
   have hsto':=(h.sto hm i').1 hsto
   have:=later i' m hm hi' hsto' fun e=>hno i' m hm e hsto'
   omega
 ·have hi0:i0<gD:=by unfold yC at ha0;omega
  have hlt:yZ K (yF O k0) i0<yZ K (yF O s) i:=by
   have:=h.order h1 hk0 hs (by omega) (by omega) (hmem i0 k0 hk0 hs0).2 ha0 hs0.2.2
   unfold Zn at this
   rw [if_pos hs0.1] at this
   omega
  rw [zgb hk0 hs0 i s (by omega) ha0 hl0,<-ih k0 i0 hk0 hi0 hlt]
  refine zjl ok (h.lt hk0) hi0 ((h.sto hk0 i0).2 hs0) _ (by omega) fun k' i' hk' hi' hsto g1 g2=>?_
  obtain⟨m,hm,rfl⟩:=h.hit hk'
  have hsto':=(h.sto hm i').1 hsto
  by_cases hah:yC i' m i s
  ·rcases Vm i0 k0 i' m with e | ⟨e1,e2⟩ | e
   ·exact absurd hah (hl0 i' m hm hsto' e)
   ·subst e1;subst e2;exact⟨rfl,rfl⟩
   ·have:=h.stores h1 hm hk0 (by omega) (by omega) hsto' hs0 e
    omega
  ·have:=later i' m hm hi' hsto' hah
   omega
theorem zqr (h:xh L t K O) (hs:s<L.b.length) {xa xb:Int} (hx:(xa,xb)∈zj (zc L.b s)) (hr0:0<=xa) (hr1:xa<L.b.length) (hr2:0<=xb) (hr3:xb<=3):zF t K O xa.toNat<=yD K O s+xb*K.pc:=by
 have hn:xa.toNat<L.b.length:=by omega
 obtain⟨eo,-⟩:=h.same xa.toNat hn
 have hw:∃wt:Nat,(wt:Int)=zO t (zc L.b xa.toNat).o/\wt<7:=by
  have h1:=(h.ok (gD:=1) (Nat.le_refl _)).wt (zc L.b xa.toNat).o
  rw [h.wait]
  exact⟨(xW t (zW (zc L.b xa.toNat).o)).toNat,by omega,by omega⟩
 obtain⟨wt,hwt,hw7⟩:=hw
 have hin:isD L t xa.toNat s xb.toNat wt=true:=by
  unfold isD
  rw [decide_eq_true hwt]
  have hl:zfj (zc L.b s) xa.toNat xb.toNat=true:=by
   unfold zfj
   obtain⟨j,hj,ej⟩:=List.mem_iff_getElem.1 hx
   refine Z0 hj ?_
   unfold zd7
   have e:zy (zj (zc L.b s)) j=(xa,xb):=by unfold zy;rw [List.getD,List.getElem?_eq_getElem hj,ej];rfl
   rw [e,decide_eq_true (show xa=(xa.toNat:Int) by omega),decide_eq_true (show xb=(xb.toNat:Int) by omega)]
   rfl
  rw [hl];rfl
 have h5:=h.edge _ (zo4 hin hn hs (by omega) hw7)
 simp only [Int.toNat_natCast] at h5
 unfold zF
 rw [eo,<-hwt]
 rw [show ((xb.toNat:Nat):Int)=xb by omega] at h5
 exact h5
theorem xh.val (h:xh L t K O) (h1:1<=gD) (h2:gD<=200) (he:UM L t K O B R):∀(N:Nat) (s i:Nat),s<L.b.length->i<gD->yZ K (yF O s) i=N->ze8 t K L.l gD (ZE R M) (yF O s) i=znn L B M i s:=by
 intro N
 induction N using Nat.strongRecOn with
 | _ N ihN =>
   intro s i hs hi eN
   have ok:=h.ok h1
   have ih:∀s' i',s'<L.b.length->i'<gD->yZ K (yF O s') i'<yZ K (yF O s) i->ze8 t K L.l gD (ZE R M) (yF O s') i'=znn L B M i' s':=by
    intro s' i' hs' hi' hlt
    have:=(xi ok (h.lt hs') i').1
    exact ihN (yZ K (yF O s') i').toNat (by omega) s' i' hs' hi' (by omega)
   obtain⟨eo,ear,esp,epl,enn⟩:=h.same s hs
   obtain⟨-,-,-,-,-,-,h7⟩:=zw h.may
   have hst:=zaj (zo h7 s hs)
   obtain⟨hc0,hc1,-⟩:=xi ok (h.lt hs) i
   have href:∀xa xb:Int,(xa,xb)∈zj (zc L.b s)->yN L.b.length s xa xb=true->∀A,A=(zr K O xa.toNat - xb - (opJ K O s).sg) % t.r->zmz (zep t K L.l gD (ZE R M) (yZ K (yF O s) i).toNat) t.r A (yZ K (yF O s) i / K.pc)=UE B (atS L B M i s).val i xa xb:=by
    intro xa xb hx hr A hA
    unfold yN at hr
    rw [Bool.and_eq_true] at hr
    have r1:=zx.1 hr.1
    have r2:=zx.1 hr.2
    have r3:xa<L.b.length:=by split at r2 <;> omega
    exact h.ref h1 he hs hi hx r2.1 r3 r1.1 (fun e=>by rw [if_pos e] at r2;omega) (zqr h hs hx r2.1 r3 r1.1 r1.2) hA ih
   unfold ze8 UK znn comes
   show (if (opJ K O s).o=1 then (opJ K O s).nn else if (opJ K O s).o=2 then yZ K (yF O s) i / K.pc - (opJ K O s).sg else if (opJ K O s).o=3 then _ else if (opJ K O s).o=4 then _ else _)=_
   rw [eo,enn]
   rcases hst with o | o | ⟨o,-⟩ | ⟨o,-,-,hr⟩ | ⟨o,o2,hr,hr2⟩
   ·rw [if_pos o,if_pos o]
   ·rw [if_neg (by omega),if_pos o,if_neg (by omega),if_pos o,hc1]
    show (opJ K O s).sg+(i:Int) - (opJ K O s).sg=_
    omega
   ·rw [if_neg (by omega),if_neg (by omega),if_pos o,if_neg (by omega),if_neg (by omega),if_pos o,zao ok (h.lt hs),h.word hs]
    show (zJ _ _ _ _ _ _).m (opJ K O s).ar.toNat _=_
    rw [ear]
    exact h.load h1 h2 hs hi o ih
   ·rw [if_neg (by omega),if_neg (by omega),if_neg (by omega),if_pos o,if_neg (by omega),if_neg (by omega),if_neg (by omega),if_pos o]
    exact href _ _ (by unfold zj;rw [if_pos o];simp) hr _ (h.nameA s hs (.inl o))
   ·rw [if_neg (by omega),if_neg (by omega),if_neg (by omega),if_neg (by omega),if_neg (by omega),if_neg (by omega),if_neg (by omega),if_neg (by omega)]
    have hu:zj (zc L.b s)=[((zc L.b s).xa,(zc L.b s).xb),((zc L.b s).ya,(zc L.b s).yb)]:=by unfold zj;rw [if_neg (by omega),if_pos (by omega)]
    have g1:=href _ _ (by rw [hu];simp) hr _ (h.nameA s hs (.inr (by omega)))
    have g2:=href _ _ (by rw [hu];simp) hr2 _ (h.nameB s hs (by omega))
    unfold opJ at g1 g2 eo
    rw [g1,g2,eo]
theorem zjb (ok:KOk t K gD):0<=Zr K gD:=by
 have:=ok.pc
 have:=ok.st
 have:=ok.tu
 exact Int.mul_nonneg (by omega) (by omega)
theorem xh.words (h:xh L t K O) (h2:gD<=200) (he:UM L t K O B R) (a b:Nat):(Zm t K L.l gD R M).m a b=(Vl L B gD (xV M)).mem a b:=by
 unfold Zm
 by_cases h0:gD=0
 ·subst h0;rfl
 rw [if_neg (by omega)]
 have h1:1<=gD:=by omega
 have ok:=h.ok h1
 have hp:=zjb ok
 rw [zt9]
 rcases zod L a b gD 0 (Nat.zero_le _) with hno | ⟨i0,k0,hk0,hs0,ha0,hl0⟩
 ·rw [zdt gD 0 (Nat.zero_le _) hno,zfp ok _ fun k' i' hk' hi' hsto=>?_]
  ·rfl
  ·obtain⟨m,hm,rfl⟩:=h.hit hk'
   exact absurd ((h.sto hm i').1 hsto) (hno i' m hm (.inl hi'))
 ·have hi0:i0<gD:=by unfold yC at ha0;omega
  have hc:=U1 ok (h.lt hk0) hi0
  have hc0:=(xi ok (h.lt hk0) i0).1
  rw [zgb hk0 hs0 gD 0 (Nat.zero_le _) ha0 hl0,<-h.val (M:=M) h1 h2 he (yZ K (yF O k0) i0).toNat k0 i0 hk0 hi0 (by omega)]
  refine zjl ok (h.lt hk0) hi0 ((h.sto hk0 i0).2 hs0) _ (by omega) fun k' i' hk' hi' hsto g1 g2=>?_
  obtain⟨m,hm,rfl⟩:=h.hit hk'
  have hsto':=(h.sto hm i').1 hsto
  rcases Vm i0 k0 i' m with e | ⟨e1,e2⟩ | e
  ·exact absurd (.inl hi') (hl0 i' m hm hsto' e)
  ·subst e1;subst e2;exact⟨rfl,rfl⟩
  ·have:=h.stores h1 hm hk0 (by omega) (by omega) hsto' hs0 e
   omega
theorem xh.outs (h:xh L t K O) (h1:1<=gD) (h2:gD<=200) (he:UM L t K O B R) {a:Int} (ha:a∈L.o) (hn:a.toNat<L.b.length):(Zm t K L.l gD R M).f ((zr K O a.toNat+gD - 1) % t.r).toNat=(Vl L B gD (xV M)).val (gD - 1) a.toNat:=by
 unfold Zm
 rw [if_neg (by omega)]
 have ok:=h.ok h1
 have hp:=zjb ok
 have hr:=ok.r
 have ht:gD - 1<gD:=by omega
 have et:((gD - 1:Nat):Int)=(gD:Int) - 1:=by omega
 have hc:=U1 ok (h.lt hn) ht
 have hc0:=(xi ok (h.lt hn) (gD - 1)).1
 have hw:=ok.wt (zp K.ops (yF O a.toNat)).o
 rw [show (Zr K gD+7).toNat=(Zr K gD).toNat+6+1 by omega,zzf,zt9,zwr gD 0 (Nat.zero_le _) (gD - 1) a.toNat hn (.inl ht),<-h.val (M:=M) h1 h2 he (yZ K (yF O a.toNat) (gD - 1)).toNat a.toNat (gD - 1) hn ht (by omega)]
 have epl:YX t K (yF O a.toNat) (gD - 1)=(zr K O a.toNat+gD - 1) % t.r:=by rw [h.place,et];congr 1;omega
 rw [<-epl]
 refine zjz ok rfl (h.lt hn) ht _ (by unfold YQ;omega) fun k' i' hk' hi' g1 g2 g3=>?_
 obtain⟨m,hm,rfl⟩:=h.hit hk'
 by_cases e:m=a.toNat/\(i':Int) - ((gD:Int) - 1)=0
 ·obtain⟨rfl,e2⟩:=e
  exact⟨rfl,by omega⟩
 ·exfalso
  rw [h.place,epl] at g3
  have g4:=zhr hr g3
  have g5:=h.told a ha m hm ((i':Int) - ((gD:Int) - 1)) (by omega) e (by rw [<-g4];congr 1;omega)
  rw [h.due,h.due,et] at g1
  rw [Int.sub_mul] at g5
  omega
end
section
def Yw (len:Nat->Nat):Nat->Nat
 | 0=>0
 | s+1=>Yw len s+len s
def Yl (len:Nat->Nat) (g:Nat->Nat->Int):Nat->List Int
 | 0=>[]
 | s+1=>Yl len g s++(List.range (len s)).map (g s)
theorem za0 (len:Nat->Nat) (g:Nat->Nat->Int):∀k,(Yl len g k).length=Yw len k:=by
 intro k
 induction k with
 | zero=>rfl
 | succ k ih =>
   show (Yl len g k++(List.range (len k)).map (g k)).length=Yw len k+len k
   rw [List.length_append,ih];simp
theorem zmu (len:Nat->Nat):∀k s,s<k->Yw len s+len s<=Yw len k:=by
 intro k
 induction k with
 | zero=>intro s h;omega
 | succ k ih =>
   intro s h
   show _<=Yw len k+len k
   by_cases e:s=k
   ·subst e;exact Nat.le_refl _
   ·have:=ih s (by omega);omega
theorem YE (len:Nat->Nat) (g:Nat->Nat->Int):∀k s q,s<k->q<len s->nth (Yl len g k) (Yw len s+q)=g s q:=by
 intro k
 induction k with
 | zero=>intro s q h;omega
 | succ k ih =>
   intro s q h hq
   show nth (Yl len g k++(List.range (len k)).map (g k)) _=_
   have hl:=za0 len g k
   unfold nth
   by_cases e:s=k
   ·subst e
    rw [List.getD,List.getElem?_append_right (by omega),hl,show Yw len s+q - Yw len s=q by omega,List.getElem?_map,List.getElem?_range hq]
    rfl
   ·have h2:=zmu len k s (by omega)
    rw [List.getD,List.getElem?_append_left (by omega)]
    exact ih s q (by omega) hq
def Up (F V:List Int):Nat->Nat->Int
 | 0=>fun _=>0
 | k+1=>YH (Up F V k) (nth F k).toNat (nth V k)
theorem zop {F V:List Int}:∀m,(∀i j,i<j->j<m->(nth F i).toNat≠(nth F j).toNat)->∀k,k<m->Up F V m (nth F k).toNat=nth V k:=by
 intro m
 induction m with
 | zero=>intro _ k h;omega
 | succ m ih =>
   intro hd k hk
   show YH (Up F V m) (nth F m).toNat (nth V m) (nth F k).toNat=_
   unfold YH
   by_cases e:k=m
   ·subst e;rw [if_pos rfl]
   ·rw [if_neg (hd k m (by omega) (by omega))]
    exact ih (fun i j h1 h2=>hd i j h1 (by omega)) k (by omega)
def Xx (u:List (Int × Int)) (a:Int) (f:Int):Nat->Int
 | 0=>f
 | k+1=>if (zy u k).1=a/\Xx u a f k<(zy u k).2 then (zy u k).2 else Xx u a f k
def zbx (L:Lp) (a:Int):Nat->Int
 | 0=>0
 | k+1=>Xx (zj (zc L.b k)) a (zbx L a k) (zj (zc L.b k)).length
def Vw (L:Lp) (a:Int):Int:=zbx L a L.b.length
theorem zh7 (u:List (Int × Int)) (a f:Int):∀k,f<=Xx u a f k:=by
 intro k
 induction k with
 | zero=>exact Int.le_refl _
 | succ k ih =>
   show f<=(if (zy u k).1=a/\Xx u a f k<(zy u k).2 then (zy u k).2 else Xx u a f k)
   split <;> omega
theorem zxl (u:List (Int × Int)) (a f:Int):∀k i,i<k->(zy u i).1=a->(zy u i).2<=Xx u a f k:=by
 intro k
 induction k with
 | zero=>intro i h;omega
 | succ k ih =>
   intro i hi e
   show _<=(if (zy u k).1=a/\Xx u a f k<(zy u k).2 then (zy u k).2 else Xx u a f k)
   by_cases e2:i=k
   ·subst e2;split <;> omega
   ·have:=ih i (by omega) e
    split <;> omega
theorem zo6 (L:Lp) (a:Int):∀k s,s<k->∀i,i<(zj (zc L.b s)).length->(zy (zj (zc L.b s)) i).1=a->(zy (zj (zc L.b s)) i).2<=zbx L a k:=by
 intro k
 induction k with
 | zero=>intro s h;omega
 | succ k ih =>
   intro s hs i hi e
   show _<=Xx (zj (zc L.b k)) a (zbx L a k) (zj (zc L.b k)).length
   by_cases e2:s=k
   ·subst e2;exact zxl _ _ _ _ i hi e
   ·exact Int.le_trans (ih s (by omega) i hi e) (zh7 _ _ _ _)
theorem zit (u:List (Int × Int)) (a f c:Int) (hf:f<=c) (hu:∀i,i<u.length->(zy u i).2<=c):∀k,k<=u.length->Xx u a f k<=c:=by
 intro k
 induction k with
 | zero=>exact fun _=>hf
 | succ k ih =>
   intro hk
   show (if (zy u k).1=a/\Xx u a f k<(zy u k).2 then (zy u k).2 else Xx u a f k)<=c
   have:=ih (by omega)
   have:=hu k (by omega)
   split <;> omega
theorem zor {u:List (Int × Int)} {r:Int × Int} (h:r∈u):∃i,i<u.length/\zy u i=r:=by
 obtain⟨i,hi,e⟩:=List.mem_iff_getElem.1 h
 exact⟨i,hi,by unfold zy;rw [List.getD,List.getElem?_eq_getElem hi,e];rfl⟩
theorem Zi {u:List (Int × Int)} (h:i<u.length):zy u i∈u:=by
 unfold zy
 rw [List.getD,List.getElem?_eq_getElem h]
 exact List.getElem_mem _
theorem Ze {L:Lp} (hm:zY L=true) (hs:s<L.b.length):∀r∈zj (zc L.b s),0<=r.1/\r.1<L.b.length/\0<=r.2/\r.2<=3:=by
 obtain⟨-,-,-,-,-,-,h7⟩:=zw hm
 have hst:=zaj (zo h7 s hs)
 intro r hr
 unfold zj at hr
 rcases hst with o | o | ⟨o,-⟩ | ⟨o,-,-,h⟩ | ⟨o,o2,h,h2⟩
 ·rw [if_neg (by omega),if_neg (by omega)] at hr;cases hr
 ·rw [if_neg (by omega),if_neg (by omega)] at hr;cases hr
 ·rw [if_neg (by omega),if_neg (by omega)] at hr;cases hr
 ·rw [if_pos o,List.mem_singleton] at hr
  subst hr
  exact zbb h (by omega)
 ·rw [if_neg (by omega),if_pos (by omega),List.mem_cons,List.mem_singleton] at hr
  rcases hr with rfl | rfl
  ·exact zbb h (by omega)
  ·exact zbb h2 (by omega)
theorem UX {L:Lp} (hm:zY L=true) (a:Int):∀k,k<=L.b.length->zbx L a k<=3:=by
 intro k
 induction k with
 | zero=>intro _;show (0:Int)<=3;omega
 | succ k ih=>intro hk;exact zit _ _ _ _ (ih (by omega)) (fun i hi=>(Ze hm (by omega) _ (Zi hi)).2.2.2) _ (Nat.le_refl _)
theorem zh8 (L:Lp) (a:Int):∀k,0<=zbx L a k:=by
 intro k
 induction k with
 | zero=>exact Int.le_refl _
 | succ k ih=>exact Int.le_trans ih (zh7 _ _ _ _)
section
variable (L:Lp) (t:Tg) (K:Kn) (O:List Int)
def ZD (s:Nat):Bool:=inR (nth O s) 0 (L.b.length - 1) && zC (fun i=>!decide (nth O i=nth O s)) s
def Yz (s:Nat):Bool:=decide ((opJ K O s).o=(zc L.b s).o) && decide ((opJ K O s).ar=(zc L.b s).ar) && decide ((opJ K O s).sp=(zc L.b s).sp) && decide ((opJ K O s).pl=(zc L.b s).pl) && decide ((opJ K O s).nn=(zc L.b s).nn)
def xD:Bool:=zY L && yj t && Yv t K L.l && decide (K.ops.length=L.b.length) && decide (O.length=L.b.length) && zC (fun s=>ZD L O s && Yz L K O s) L.b.length
def UV (e:Ed):Bool:=decide (yD K O e.fr.toNat+e.wt<=yD K O e.to.toNat+e.bk*K.pc)
def zv8 (s i:Nat):Bool:=decide ((if i=1 then (opJ K O s).b else (opJ K O s).a)=(zr K O (zy (zj (zc L.b s)) i).1.toNat - (zy (zj (zc L.b s)) i).2 - (opJ K O s).sg) % t.r)
def Un (a:Nat) (bk u:Int) (m:Nat) (j:Int):Bool:=(decide (zF t K O a<=zF t K O m+j*K.pc) && decide (zF t K O m+j*K.pc<=u)) || (decide (0<bk) && decide (0<j) && decide (zF t K O m+j*K.pc<=u))
def za5 (a:Nat) (bk u:Int) (m:Nat) (j:Int):Bool:=!Un t K O a bk u m j || (decide (m=a) && decide (j=0)) || !decide ((zr K O m+j - zr K O a) % t.r=0)
def zue (a:Nat) (bk u:Int):Bool:=zC (fun m=>zC (fun j=>za5 t K O a bk u m ((j:Int) - 4100)) 8201) L.b.length
def zkx (s i:Nat):Bool:=zv8 L t K O s i && zue L t K O (zy (zj (zc L.b s)) i).1.toNat (zy (zj (zc L.b s)) i).2 (yD K O s+(zy (zj (zc L.b s)) i).2*K.pc)
def yg (s:Nat):Nat:=(Vw L s).toNat
def YS (s q:Nat):Int:=(zr K O s - ((q:Int)+1)) % t.r
def xl (k:Nat):List Int:=Yl (yg L) (YS t K O) k
def YV (F:List Int) (i:Nat):Bool:=zC (fun j=>!decide (nth F j=nth F i)) i
def zp1 (a m j:Nat):Bool:=decide (zF t K O m - j*K.pc<zF t K O a) || (decide (m=a) && decide (j=0)) || !decide ((zr K O m - j - zr K O a) % t.r=0)
def zgi (a:Nat):Bool:=zC (fun m=>zC (zp1 t K O a m) 1007) L.b.length
def zQ:Bool :=
 xD L t K O && zC (fun i=>UV K O (zM (zi L t) i)) (zi L t).length && zC (fun s=>zC (zkx L t K O s) (zj (zc L.b s)).length) L.b.length
  && zC (YV (xl L t K O L.b.length)) (xl L t K O L.b.length).length && zC (fun i=>zgi L t K O (nth L.o i).toNat) L.o.length
def YC (B:List (List Int)) (k:Nat):List Int:=Yl (yg L) (fun s q=>nth (zv B s) q) k
def zts (B:List (List Int)):Nat->Int:=Up (xl L t K O L.b.length) (YC L B L.b.length) (Yw (yg L) L.b.length)
def xA (B:List (List Int)):List Int:=(List.range t.r.toNat).map (zts L t K O B)
def xS (B:List (List Int)) (R:List Int) (gD:Int):List Int:=L.o.map fun o=>if 0<gD then nth R ((zr K O o.toNat+gD - 1) % t.r).toNat else nth (zv B o.toNat) 0
end
variable {L:Lp} {t:Tg} {K:Kn} {O:List Int} {B M:List (List Int)} {R:List Int}
theorem yP (h:xD L t K O=true):zY L=true/\yj t=true/\Yv t K L.l=true/\K.ops.length=L.b.length/\O.length=L.b.length/\∀s,s<L.b.length->ZD L O s=true/\Yz L K O s=true:=by
 unfold xD at h
 simp only [Bool.and_eq_true,decide_eq_true_eq] at h
 obtain⟨⟨⟨⟨⟨h1,h2⟩,h3⟩,h4⟩,h5⟩,h6⟩:=h
 exact⟨h1,h2,h3,h4,h5,fun s hs=>by have:=zo h6 s hs;simpa using this⟩
theorem XK (h:ZD L O s=true):0<=nth O s/\nth O s<L.b.length/\∀i,i<s->nth O i≠nth O s:=by
 unfold ZD at h
 rw [Bool.and_eq_true] at h
 have h1:=zx.1 h.1
 refine⟨h1.1,by omega,fun i hi=>?_⟩
 have:=zo h.2 i hi
 simpa using this
theorem zdq (h:Yz L K O s=true):(opJ K O s).o=(zc L.b s).o/\(opJ K O s).ar=(zc L.b s).ar/\(opJ K O s).sp=(zc L.b s).sp/\(opJ K O s).pl=(zc L.b s).pl/\(opJ K O s).nn=(zc L.b s).nn:=by
 unfold Yz at h
 simp only [Bool.and_eq_true,decide_eq_true_eq] at h
 obtain⟨⟨⟨⟨h1,h2⟩,h3⟩,h4⟩,h5⟩:=h
 exact⟨h1,h2,h3,h4,h5⟩
theorem yz (h:xD L t K O=true):(1<=K.pc/\K.pc<=200/\1<=t.r)/\∀s,s<L.b.length->0<=yD K O s/\yD K O s<=1000/\yD K O s+1<=zF t K O s/\zF t K O s<=yD K O s+6:=by
 obtain⟨h1,h2,h3,h4,h5,h6⟩:=yP h
 have hk:=h3
 unfold Yv at hk
 simp only [Bool.and_eq_true] at hk
 obtain⟨⟨⟨⟨hk1,hk2⟩,hk3⟩,hk4⟩,hk5⟩:=hk
 have hp:=zx.1 hk2
 obtain⟨u1,u2,u3,hr1,-⟩:=ym hk1
 refine⟨⟨hp.1,hp.2,hr1⟩,fun s hs=>?_⟩
 obtain⟨o1,o2,-⟩:=XK (h6 s hs).1
 have h7:=zo hk5 (yF O s) (by unfold yF;omega)
 unfold VF xv at h7
 simp only [Bool.and_eq_true,decide_eq_true_eq] at h7
 have h8:=zx.1 h7.1.1.1.1.1
 have h9:=zx.1 h7.1.1.1.1.2
 have h10:=h7.1.1.1.2
 have h11:0<=(zp K.ops (yF O s)).sg*K.pc:=Int.mul_nonneg h9.1 (by omega)
 have h12:yD K O s=(zp K.ops (yF O s)).sl+(zp K.ops (yF O s)).sg*K.pc:=by unfold yD opJ;rw [Int.mul_comm]
 have hw:1<=zO t (opJ K O s).o/\zO t (opJ K O s).o<=6:=by
  have u1:=yn u1
  have u2:=yn u2
  have u3:=yn u3
  unfold zO
  rw [if_pos h2]
  unfold xW
  split
  ·omega
  ·split <;> omega
 unfold zF
 omega
theorem Xs (h:zQ L t K O=true):xD L t K O=true/\(∀e∈zi L t,UV K O e=true)/\(∀s,s<L.b.length->∀i,i<(zj (zc L.b s)).length->zkx L t K O s i=true) /\
  (∀i j,i<j->j<(xl L t K O L.b.length).length->nth (xl L t K O L.b.length) i≠nth (xl L t K O L.b.length) j)/\∀a∈L.o,zgi L t K O a.toNat=true:=by
 unfold zQ at h
 simp only [Bool.and_eq_true] at h
 obtain⟨⟨⟨⟨h1,h2⟩,h3⟩,h4⟩,h5⟩:=h
 refine⟨h1,fun e he=>?_,fun s hs i hi=>zo (zo h3 s hs) i hi,fun i j hij hj=>?_,fun a ha=>?_⟩
 ·obtain⟨i,hi,ei⟩:=List.mem_iff_getElem.1 he
  have h6:=zo h2 i hi
  have e2:zM (zi L t) i=e:=by unfold zM;rw [List.getD,List.getElem?_eq_getElem hi,ei];rfl
  rw [e2] at h6
  exact h6
 ·have h6:=zo (zo h4 j hj) i hij
  simpa using h6
 ·obtain⟨i,hi,ei⟩:=List.mem_iff_getElem.1 ha
  have h6:=zo h5 i hi
  have e2:nth L.o i=a:=by unfold nth;rw [List.getD,List.getElem?_eq_getElem hi,ei];rfl
  rw [e2] at h6
  exact h6
theorem zdy (h:zQ L t K O=true):xh L t K O:=by
 obtain⟨hl,hed,hus,hfr,hto⟩:=Xs h
 obtain⟨h1,h2,h3,h4,h5,h6⟩:=yP hl
 obtain⟨⟨hp1,hp2,hr1⟩,hrg⟩:=yz hl
 refine⟨h1,h2,h3,h4,fun s hs=>?_,fun s s' hs hs' e=>?_,fun s hs=>zdq (h6 s hs).2,fun e he=>of_decide_eq_true (hed e he),fun s hs ho=>?_,fun s hs ho=>?_,?_,?_⟩
 ·obtain⟨o1,o2,-⟩:=XK (h6 s hs).1
  unfold yF;omega
 ·obtain⟨o1,o2,o3⟩:=XK (h6 s hs).1
  obtain⟨q1,q2,q3⟩:=XK (h6 s' hs').1
  unfold yF at e
  by_cases e1:s<s'
  ·exact absurd (by omega) (q3 s e1)
  ·by_cases e2:s'<s
   ·exact absurd (by omega) (o3 s' e2)
   ·omega
 ·have hu:(zj (zc L.b s)).length=(if (zc L.b s).o=4 then 1 else 2)/\zy (zj (zc L.b s)) 0=((zc L.b s).xa,(zc L.b s).xb):=by
   unfold zj
   by_cases e:(zc L.b s).o=4
   ·rw [if_pos e,if_pos e];exact⟨rfl,rfl⟩
   ·rw [if_neg e,if_pos (by omega),if_neg e];exact⟨rfl,rfl⟩
  have h7:=hus s hs 0 (by rw [hu.1];split <;> omega)
  unfold zkx zv8 at h7
  rw [Bool.and_eq_true] at h7
  have h8:=of_decide_eq_true h7.1
  rw [if_neg (by omega),hu.2] at h8
  exact h8
 ·have hu:(zj (zc L.b s)).length=2/\zy (zj (zc L.b s)) 1=((zc L.b s).ya,(zc L.b s).yb):=by
   unfold zj
   rw [if_neg (by omega),if_pos ho];exact⟨rfl,rfl⟩
  have h7:=hus s hs 1 (by rw [hu.1];omega)
  unfold zkx zv8 at h7
  rw [Bool.and_eq_true] at h7
  have h8:=of_decide_eq_true h7.1
  rw [if_pos rfl,hu.2] at h8
  exact h8
 ·intro s hs r hr m hm j hne hrest
  obtain⟨i,hi,rfl⟩:=zor hr
  obtain⟨r1,r2,r3,r4⟩:=Ze h1 hs _ hr
  have h7:=hus s hs i hi
  unfold zkx at h7
  rw [Bool.and_eq_true] at h7
  have h8:=zo h7.2 m hm
  generalize zy (zj (zc L.b s)) i=r at *
  obtain⟨g1,g2,g3,g4⟩:=hrg s hs
  obtain⟨a1,a2,a3,a4⟩:=hrg r.1.toNat (by omega)
  obtain⟨m1,m2,m3,m4⟩:=hrg m hm
  have hb:r.2*K.pc<=3*200:=Int.mul_le_mul r4 hp2 (by omega) (by omega)
  have hb0:0<=r.2*K.pc:=Int.mul_nonneg r3 (by omega)
  by_cases hj:-4100<=j/\j<=4100
  ·have h9:=zo h8 (j+4100).toNat (by omega)
   have h9':za5 t K O r.1.toNat r.2 (yD K O s+r.2*K.pc) m (((j+4100).toNat:Int) - 4100)=true:=h9
   rw [show (((j+4100).toNat:Nat):Int) - 4100=j by omega] at h9'
   unfold za5 at h9'
   rw [decide_eq_true hrest] at h9'
   have hna:(decide (m=r.1.toNat) && decide (j=0))=false:=by
    by_cases e1:m=r.1.toNat
    ·rw [decide_eq_false (fun e2=>hne ⟨e1,e2⟩)];simp
    ·rw [decide_eq_false e1];rfl
   rw [hna] at h9'
   have h10:Un t K O r.1.toNat r.2 (yD K O s+r.2*K.pc) m j=false:=by simpa using h9'
   unfold Un at h10
   rw [Bool.or_eq_false_iff] at h10
   obtain⟨n1,n2⟩:=h10
   constructor
   ·by_cases e1:zF t K O m+j*K.pc<zF t K O r.1.toNat
    ·exact .inl e1
    ·refine .inr ?_
     rw [decide_eq_true (by omega)] at n1
     have:=of_decide_eq_false n1
     omega
   ·intro b1 b2
    rw [decide_eq_true b1,decide_eq_true b2] at n2
    have:=of_decide_eq_false n2
    omega
  ·by_cases hj2:0<j
   ·have h9:j*1<=j*K.pc:=Int.mul_le_mul_of_nonneg_left hp1 (by omega)
    exact⟨.inr (by omega),fun _ _=>by omega⟩
   ·have h9:(-j)*1<=(-j)*K.pc:=Int.mul_le_mul_of_nonneg_left hp1 (by omega)
    rw [Int.neg_mul,Int.neg_mul] at h9
    exact⟨.inl (by omega),fun _ h=>by omega⟩
 ·intro a ha m hm j hj hne hrest
  obtain⟨-,-,-,-,-,h6o,-⟩:=zw h1
  have h8:=zo (hto a ha) m hm
  obtain⟨m1,m2,m3,m4⟩:=hrg m hm
  have han:a.toNat<L.b.length:=by
   obtain⟨i,hi,ei⟩:=List.mem_iff_getElem.1 ha
   have h9:=Ya L.b.length L.o (i+1) (by omega) (zL fun k hk=>zo h6o k (by omega))
   have e2:zhn L.o (i+1)=a:=by show nth L.o i=a;unfold nth;rw [List.getD,List.getElem?_eq_getElem hi,ei];rfl
   have:=zw h1
   omega
  obtain⟨a1,a2,a3,a4⟩:=hrg a.toNat han
  by_cases hj2:(-j).toNat<1007
  ·have h9:=zo h8 (-j).toNat hj2
   unfold zp1 at h9
   have ej:(((-j).toNat:Nat):Int)=-j:=by omega
   rw [ej,show zr K O m - -j - zr K O a.toNat=zr K O m+j - zr K O a.toNat by omega,decide_eq_true hrest] at h9
   have hna:(decide (m=a.toNat) && decide ((-j).toNat=0))=false:=by
    by_cases e1:m=a.toNat
    ·rw [decide_eq_false (show ¬((-j).toNat=0) from fun e2=>hne ⟨e1,by omega⟩)];simp
    ·rw [decide_eq_false e1];rfl
   rw [hna] at h9
   have h10:zF t K O m - -j*K.pc<zF t K O a.toNat:=by simpa using h9
   rw [Int.neg_mul] at h10
   omega
  ·have h9:(-j)*1<=(-j)*K.pc:=Int.mul_le_mul_of_nonneg_left hp1 (by omega)
   rw [Int.neg_mul,Int.neg_mul] at h9
   omega
theorem xI {f:Nat->Int} (h:i<n):nth ((List.range n).map f) i=f i:=by
 unfold nth
 rw [List.getD,List.getElem?_map,List.getElem?_range h]
 rfl
theorem zcv (h:zQ L t K O=true) (B:List (List Int)):UM L t K O B (xA L t K O B):=by
 obtain⟨hl,hed,hus,hfr,hto⟩:=Xs h
 obtain⟨h1,-⟩:=yP hl
 obtain⟨⟨hp1,hp2,hr1⟩,hrg⟩:=yz hl
 intro s hs r hr q hq1 hq2
 obtain⟨i,hi,rfl⟩:=zor hr
 obtain⟨r1,r2,r3,r4⟩:=Ze h1 hs _ hr
 have hfar:(zy (zj (zc L.b s)) i).2<=Vw L (zy (zj (zc L.b s)) i).1.toNat:=by
  rw [show (((zy (zj (zc L.b s)) i).1.toNat:Nat):Int)=(zy (zj (zc L.b s)) i).1 by omega]
  exact zo6 L _ L.b.length s hs i hi rfl
 generalize zy (zj (zc L.b s)) i=r at *
 have hq3:(q - 1).toNat<yg L r.1.toNat:=by unfold yg;omega
 have e1:=YE (yg L) (YS t K O) L.b.length r.1.toNat (q - 1).toNat (by omega) hq3
 have e2:=YE (yg L) (fun s q=>nth (zv B s) q) L.b.length r.1.toNat (q - 1).toNat (by omega) hq3
 have e3:YS t K O r.1.toNat (q - 1).toNat=(zr K O r.1.toNat - q) % t.r:=by
  unfold YS
  rw [show (((q - 1).toNat:Nat):Int)+1=q by omega]
 have hm0:=Int.emod_nonneg (zr K O r.1.toNat - q) (by omega:t.r≠0)
 have hm1:=Int.emod_lt_of_pos (zr K O r.1.toNat - q) (by omega:0<t.r)
 unfold xA
 rw [xI (by omega)]
 unfold zts
 have hpos:=zmu (yg L) L.b.length r.1.toNat (by omega)
 have hlen:(xl L t K O L.b.length).length=Yw (yg L) L.b.length:=za0 _ _ _
 have hfirst0:∀k,k<(xl L t K O L.b.length).length->0<=nth (xl L t K O L.b.length) k:=by
  intro k hk
  have hall:∀n,∀x∈Yl (yg L) (YS t K O) n,0<=x:=by
   intro n
   induction n with
   | zero=>intro x hx;cases hx
   | succ n ih =>
     intro x hx
     have hx':x∈Yl (yg L) (YS t K O) n++(List.range (yg L n)).map (YS t K O n):=hx
     rcases List.mem_append.1 hx' with hx2 | hx2
     ·exact ih x hx2
     ·obtain⟨y,-,rfl⟩:=List.mem_map.1 hx2
      exact Int.emod_nonneg _ (by omega)
  refine hall L.b.length _ ?_
  unfold nth
  rw [List.getD,List.getElem?_eq_getElem hk]
  exact List.getElem_mem _
 have h9:=zop (F:=xl L t K O L.b.length) (V:=YC L B L.b.length) (Yw (yg L) L.b.length) (fun i j hij hj e=>hfr i j hij (by omega) (by
  have g1:=hfirst0 i (by omega)
  have g2:=hfirst0 j (by omega)
  omega)) (Yw (yg L) r.1.toNat+(q - 1).toNat) (by omega)
 have e1':nth (xl L t K O L.b.length) (Yw (yg L) r.1.toNat+(q - 1).toNat)=(zr K O r.1.toNat - q) % t.r:=e1.trans e3
 rw [e1'] at h9
 exact h9.trans e2
theorem zkc (h:zQ L t K O=true) {gD:Nat} (h2:gD<=200) (a b:Nat):(Zm t K L.l gD (xA L t K O B) M).m a b=(Vl L B gD (xV M)).mem a b:=(zdy h).words h2 (zcv h B) a b
theorem zn7 (h:zQ L t K O=true) {gD:Nat} (h2:gD<=200):xS L t K O B (XA t.r.toNat (Zm t K L.l gD (xA L t K O B) M)) gD=xH L B gD (Vl L B gD (xV M)):=by
 have ht:=zdy h
 obtain⟨-,-,-,-,-,h6o,-⟩:=zw ht.may
 have hr:=(ht.ok (gD:=1) (Nat.le_refl _)).r
 unfold xS xH
 refine List.map_congr_left fun a ha=>?_
 have han:a.toNat<L.b.length:=by
  obtain⟨i,hi,ei⟩:=List.mem_iff_getElem.1 ha
  have h9:=Ya L.b.length L.o (i+1) (by omega) (zL fun k hk=>zo h6o k (by omega))
  have e2:zhn L.o (i+1)=a:=by show nth L.o i=a;unfold nth;rw [List.getD,List.getElem?_eq_getElem hi,ei];rfl
  have:=zw ht.may
  omega
 by_cases e:gD=0
 ·rw [if_neg (by omega),if_pos e]
 ·rw [if_pos (by omega),if_neg e,<-ht.outs (by omega) h2 (zcv h B) (M:=M) ha han]
  have hm0:=Int.emod_nonneg (zr K O a.toNat+gD - 1) (by omega:t.r≠0)
  have hm1:=Int.emod_lt_of_pos (zr K O a.toNat+gD - 1) (by omega:0<t.r)
  unfold XA
  rw [xI (by omega)]
end
section
section
variable (L:Lp) (t:Tg) (P:Int) (T D:List Int)
def ZO (s i:Nat):Int:=(nth D (zy (zj (zc L.b s)) i).1.toNat+nth T (zy (zj (zc L.b s)) i).1.toNat / P - (zy (zj (zc L.b s)) i).2 - nth T s / P) % t.r
def opE (s:Nat):Kop:=⟨nth T s % P,nth T s / P,(zc L.b s).o,nth D s,if 0<(zj (zc L.b s)).length then ZO L t P T D s 0 else 0,if 1<(zj (zc L.b s)).length then ZO L t P T D s 1 else 0,(zc L.b s).ar,(zc L.b s).sp,(zc L.b s).pl,(zc L.b s).nn⟩
def yp:Nat->Int
 | 0=>0
 | k+1=>if yp k<=nth T k / P then nth T k / P+1 else yp k
def zR:Kn:=⟨P,yp P T L.b.length,(List.range L.b.length).map (opE L t P T D)⟩
def xj:Bool:=decide (D.length=L.b.length) && zC (fun s=>inR (nth D s) 0 (t.r - 1)) L.b.length
end
def yI (n:Nat):List Int:=(List.range n).map fun i:Nat=>(i:Int)
variable {L:Lp} {t:Tg} {P:Int} {T D:List Int}
theorem zab (h:s<n):nth (yI n) s=s:=xI h
theorem VD (n:Nat):(yI n).length=n:=by unfold yI;simp
theorem YR:(zR L t P T D).ops.length=L.b.length:=by unfold zR;simp
theorem UW (h:s<L.b.length):zp (zR L t P T D).ops s=opE L t P T D s:=by
 unfold zp zR
 show ((List.range L.b.length).map (opE L t P T D)).getD s Kop.nil=_
 rw [List.getD,List.getElem?_map,List.getElem?_range h]
 rfl
theorem zbe (P:Int) (T:List Int):∀k s,s<k->nth T s / P<yp P T k:=by
 intro k
 induction k with
 | zero=>intro s h;omega
 | succ k ih =>
   intro s h
   show _<(if yp P T k<=nth T k / P then nth T k / P+1 else yp P T k)
   by_cases e:s=k
   ·subst e;split <;> omega
   ·have:=ih s (by omega)
    split <;> omega
theorem zbf (P:Int) (T:List Int) (c:Int) (hc:0<=c):∀k,(∀s,s<k->nth T s / P<c)->yp P T k<=c:=by
 intro k
 induction k with
 | zero=>exact fun _=>hc
 | succ k ih =>
   intro h
   show (if yp P T k<=nth T k / P then nth T k / P+1 else yp P T k)<=c
   have:=ih fun s hs=>h s (by omega)
   have:=h k (by omega)
   split <;> omega
theorem zwq (L:Lp) (hm:zY L=true) (hs:s<L.b.length):((zj (zc L.b s)).length:Int)=YB (zc L.b s).o:=by
 unfold zj YB
 split
 ·rfl
 ·split <;> rfl
theorem zvc {L:Lp} (hm:zY L=true) (hs:s<L.b.length) {x:Kop} (ho:x.o=(zc L.b s).o) (h1:x.ar=(zc L.b s).ar) (h2:x.sp=(zc L.b s).sp) (h3:x.pl=(zc L.b s).pl) (h4:x.nn=(zc L.b s).nn):zY (zjf L.l x)=true:=by
 obtain⟨m1,m2,m3,m4,m5,m6,m7⟩:=zw hm
 have hst:yH L.l.length L.b.length s (zc L.b s)=true:=zo m7 s hs
 have hx:yH L.l.length 2 1 ⟨x.o,0,0,0,0,x.ar,x.sp,x.pl,x.nn⟩=true:=by
  rw [ho,h1,h2,h3,h4]
  unfold yH at hst ⊢
  dsimp only
  split
  ·next e=>rw [if_pos e] at hst;have:=of_decide_eq_true hst;exact decide_eq_true ⟨rfl,rfl,rfl,rfl,this.2.2.2.2⟩
  ·next e1 =>
   rw [if_neg e1] at hst
   split
   ·next e=>rw [if_pos e] at hst;have:=of_decide_eq_true hst;exact decide_eq_true ⟨rfl,rfl,rfl,rfl,this.2.2.2.2⟩
   ·next e2 =>
    rw [if_neg e2] at hst
    split
    ·next e =>
     rw [if_pos e,Bool.and_eq_true] at hst
     have:=of_decide_eq_true hst.1
     rw [Bool.and_eq_true]
     exact⟨decide_eq_true ⟨rfl,rfl,rfl,rfl,this.2.2.2.2⟩,hst.2⟩
    ·next e3 =>
     rw [if_neg e3] at hst
     split
     ·next e =>
      rw [if_pos e,Bool.and_eq_true,Bool.and_eq_true] at hst
      have:=of_decide_eq_true hst.1.1
      rw [Bool.and_eq_true,Bool.and_eq_true]
      exact⟨⟨decide_eq_true ⟨rfl,rfl,this.2.2⟩,hst.1.2⟩,rfl⟩
     ·next e4 =>
      rw [if_neg e4] at hst
      split
      ·next e =>
       rw [if_pos e,Bool.and_eq_true,Bool.and_eq_true] at hst
       rw [Bool.and_eq_true,Bool.and_eq_true]
       exact⟨⟨hst.1.1,rfl⟩,rfl⟩
      ·next e5=>rw [if_neg e5] at hst;cases hst
 unfold zY zjf
 simp only [Bool.and_eq_true,decide_eq_true_eq]
 refine⟨⟨⟨⟨⟨m1,by simp⟩,by simp⟩,m5⟩,rfl⟩,?_⟩
 unfold Y2
 refine zL fun k hk=>?_
 have hk2:k<2:=hk
 match k,hk2 with
 | 0,_=>rfl
 | 1,_=>exact hx
theorem xr (h:zV L t P T=true) (hs:s<L.b.length):0<=nth T s/\nth T s<=1000/\(Vg L P T s:Int)<=ye t (zW (zc L.b s).o):=by
 obtain⟨-,-,-,-,h5,h6,-⟩:=yd h
 have h7:=zo h6 s (by omega)
 unfold XN at h7
 rw [Bool.and_eq_true] at h7
 have h8:=zx.1 h7.1
 exact⟨h8.1,h8.2,of_decide_eq_true h7.2⟩
theorem ztr (h:zV L t P T=true) (hd:xj L t D=true):Yv t (zR L t P T D) L.l=true:=by
 obtain⟨h1,h2,h3,h4,h5,h6,h7⟩:=yd h
 obtain⟨-,m2,m3,-⟩:=zw h1
 obtain⟨-,-,-,hr1,-⟩:=ym h2
 unfold xj at hd
 rw [Bool.and_eq_true] at hd
 have hdiv:∀s,s<L.b.length->0<=nth T s / P/\nth T s / P<=1000/\nth T s / P*P+nth T s % P=nth T s/\0<=nth T s % P/\nth T s % P<P:=by
  intro s hs
  obtain⟨t1,t2,-⟩:=xr h hs
  refine⟨Int.ediv_nonneg t1 (by omega),Int.le_trans (Int.ediv_le_self _ t1) t2,?_,Int.emod_nonneg _ (by omega),Int.emod_lt_of_pos _ (by omega)⟩
  rw [Int.mul_comm]
  exact Int.mul_ediv_add_emod _ _
 have hst1:1<=yp P T L.b.length:=by
  have:=zbe P T L.b.length 0 (by omega)
  have:=(hdiv 0 (by omega)).1
  omega
 have hst2:yp P T L.b.length<=1001:=zbf P T 1001 (by omega) _ fun s hs=>by have:=(hdiv s hs).2.1;omega
 unfold Yv
 simp only [Bool.and_eq_true]
 refine⟨⟨⟨⟨h2,yf ⟨h3,h4⟩⟩,yf ⟨hst1,hst2⟩⟩,?_⟩,?_⟩
 ·rw [YR];exact yf (by omega)
 ·refine zL fun s hs=>?_
  rw [YR] at hs
  rw [UW hs,Bool.and_eq_true]
  obtain⟨d1,d2,d3,d4,d5⟩:=hdiv s hs
  obtain⟨t1,t2,t3⟩:=xr h hs
  have hul:=zwq L h1 hs
  have hdr:=zx.1 (zo hd.2 s hs)
  have hn0:=fun i=>Int.emod_nonneg (nth D (zy (zj (zc L.b s)) i).1.toNat+nth T (zy (zj (zc L.b s)) i).1.toNat / P - (zy (zj (zc L.b s)) i).2 - nth T s / P) (by omega:t.r≠0)
  have hn1:=fun i=>Int.emod_lt_of_pos (nth D (zy (zj (zc L.b s)) i).1.toNat+nth T (zy (zj (zc L.b s)) i).1.toNat / P - (zy (zj (zc L.b s)) i).2 - nth T s / P) (by omega:0<t.r)
  refine⟨?_,decide_eq_true ?_⟩
  ·unfold VF
   rw [Bool.and_eq_true,Bool.and_eq_true]
   refine⟨⟨?_,?_⟩,zvc h1 hs rfl rfl rfl rfl rfl⟩
   ·have:=zbe P T L.b.length s hs
    exact zwh (by show ¬nth T s % P<0;omega) (by show ¬P<=nth T s % P;omega) (by show ¬nth T s / P<0;omega) (by show ¬yp P T L.b.length<=nth T s / P;omega) (by show ¬1000<nth T s / P*P+nth T s % P;omega)
   ·have ha:0<=(opE L t P T D s).a/\(opE L t P T D s).a<t.r:=by
     show 0<=(if 0<(zj (zc L.b s)).length then ZO L t P T D s 0 else 0)/\(if 0<(zj (zc L.b s)).length then ZO L t P T D s 0 else 0)<t.r
     split
     ·exact⟨hn0 0,hn1 0⟩
     ·omega
    have hb:0<=(opE L t P T D s).b/\(opE L t P T D s).b<t.r:=by
     show 0<=(if 1<(zj (zc L.b s)).length then ZO L t P T D s 1 else 0)/\(if 1<(zj (zc L.b s)).length then ZO L t P T D s 1 else 0)<t.r
     split
     ·exact⟨hn0 1,hn1 1⟩
     ·omega
    refine zw1 (by show ¬nth D s<0;omega) (by show ¬t.r<=nth D s;omega) (by omega) (by omega) (by omega) (by omega) ?_ ?_
    ·show 1<=YB (zc L.b s).o\/(if 0<(zj (zc L.b s)).length then ZO L t P T D s 0 else 0)=0
     by_cases e:0<(zj (zc L.b s)).length
     ·exact .inl (by omega)
     ·exact .inr (if_neg e)
    ·show 2<=YB (zc L.b s).o\/(if 1<(zj (zc L.b s)).length then ZO L t P T D s 1 else 0)=0
     by_cases e:1<(zj (zc L.b s)).length
     ·exact .inl (by omega)
     ·exact .inr (if_neg e)
  ·refine Int.le_trans ?_ t3
   unfold zfn Vg
   rw [YR,h5]
   refine Int.ofNat_le.2 (zh2 fun j hj hp=>?_)
   obtain⟨j1,j2,-⟩:=xr h hj
   unfold Ur at hp
   rw [UW hj,UW hs] at hp
   unfold zaa
   rw [Int.tmod_eq_emod_of_nonneg j1,Int.tmod_eq_emod_of_nonneg t1]
   exact hp
theorem UZ (len:Nat->Nat):∀k i,i<Yw len k->∃s q,s<k/\q<len s/\i=Yw len s+q:=by
 intro k
 induction k with
 | zero=>intro i h;exact absurd h (Nat.not_lt_zero _)
 | succ k ih =>
   intro i h
   have h':i<Yw len k+len k:=h
   by_cases e:i<Yw len k
   ·obtain⟨s,q,h1,h2,h3⟩:=ih i e
    exact⟨s,q,by omega,h2,h3⟩
   ·exact⟨k,i - Yw len k,by omega,by omega,by omega⟩
end
end Go.Proofs.YtjoapiafpahihabGreat
