import Derived.Test.YtjoapiafpahihabGreatMaths
import Derived.Test.YtjoapiafpahihabGreatLoopStmt
namespace Go.Proofs.YtjoapiafpahihabGreat
open Go.RowKit Go.Joins
set_option linter.unusedVariables false
variable {w w':World} {base sz n base' r R P:Nat} {e e':TypeId} {v:Value} {xs:List Value} {p:Int} {a H f g x A y:Nat->Int} {L:Lp} {t:Tg} {T:List Int}
theorem zG (h:w.ownsRow base e sz v n xs):∀k,v.ownBlock=some k->base<=k:=by
 obtain⟨hl,h⟩:=h
 rcases h with ⟨rfl,_⟩ | ⟨g',cap,cur,rfl,hg,hk,r⟩
 ·intro k h;cases h
 ·intro k h
  have:g'=k:=by simpa [Value.ownBlock] using h
  omega
theorem zB (h:w.ownsRow base e sz v n xs):∀k,v.ownBlock=some k->k<w.heap.size:=by
 obtain⟨hl,h⟩:=h
 rcases h with ⟨rfl,_⟩ | ⟨g',cap,cur,rfl,hg,hk,r⟩
 ·intro k h;cases h
 ·intro k h
  have e:g'=k:=by simpa [Value.ownBlock] using h
  subst e
  exact (Array.getElem?_eq_some_iff.1 hk).1
theorem V7 {m:Nat} {g:Nat} {f:Nat->Value} (h:w.ownsRow base e sz v n xs) (hr:zu w g e' m f) (he:e'≠e):some g≠v.ownBlock:=by
 obtain⟨hl,h⟩:=h
 rcases h with ⟨rfl,_⟩ | ⟨g',cap,cur,rfl,hg,hk,r⟩
 ·intro h;cases h
 ·intro h
  have hgg:g=g':=by simpa [Value.ownBlock] using h
  subst hgg
  obtain⟨c,hb,_,_⟩:=hr
  rw [hk] at hb
  have h1:=Option.some.inj hb
  injection h1 with _ h2
  exact he h2.symm
theorem zS (h:w.ownsRow base e sz v n xs):∃a cap,v=.slice a n cap/\n<=cap/\cap<=maxLen:=by
 obtain⟨hl,h⟩:=h
 rcases h with ⟨rfl,rfl⟩ | ⟨g,cap,cur,rfl,hg,hb,hn,hm,r⟩
 ·exact⟨none,0,rfl,Nat.le_refl _,Nat.zero_le _⟩
 ·exact⟨_,cap,rfl,hn,hm⟩
theorem zrg (h:w.ownsRow base e sz v n xs) (hb:base'<=base):w.ownsRow base' e sz v n xs:=by
 obtain⟨hl,h⟩:=h
 refine⟨hl,?_⟩
 rcases h with h | ⟨g,cap,cur,hv,hg,r⟩
 ·exact .inl h
 ·exact .inr ⟨g,cap,cur,hv,by omega,r⟩
theorem yB (h:w.ownsRow base e sz v n xs) (hk:∀g,v.ownBlock=some g->w'.heap[g]?=w.heap[g]?):w'.ownsRow base e sz v n xs:=by
 obtain⟨hl,h⟩:=h
 refine⟨hl,?_⟩
 rcases h with h | ⟨g,cap,cur,hv,hg,hb,r⟩
 ·exact .inl h
 ·exact .inr ⟨g,cap,cur,hv,hg,by rw [hk g (by rw [hv];rfl)];exact hb,r⟩
theorem zjs {sz':Nat} {v':Value} {n':Nat} {xs':List Value} (h:w.ownsRow base e sz v n xs) (h':w.ownsRow base' e' sz' v' n' xs') (he:e≠e'):∀g,v.ownBlock=some g->some g≠v'.ownBlock:=by
 intro g hg hg'
 obtain⟨_,h⟩:=h
 obtain⟨_,h'⟩:=h'
 rcases h with ⟨rfl,_⟩ | ⟨g1,c1,cur1,rfl,_,hb1,_⟩
 ·cases hg
 rcases h' with ⟨rfl,_⟩ | ⟨g2,c2,cur2,rfl,_,hb2,_⟩
 ·cases hg'
 have e1:g1=g:=by simpa [Value.ownBlock] using hg
 have e2:g=g2:=by simpa [Value.ownBlock] using hg'
 subst e1;subst e2
 rw [hb1] at hb2
 have h1:=Option.some.inj hb2
 injection h1 with _ h2
 exact he h2
def Ed.nil:Ed:=⟨0,0,0,0⟩
def zM (l:List Ed) (i:Nat):Ed:=l.getD i Ed.nil
def zX (d:Ed):List Value:=[iV d.fr,iV d.to,iV d.bk,iV d.wt]
def yw (l:List Ed):List Value:=l.flatMap zX
theorem zd0 (l:List Ed) (d:Ed):yw l++zX d=yw (l++[d]):=by unfold yw;simp
theorem U2 (l:List Ed):(yw l).length=l.length*4:=by
 induction l with
 | nil=>rfl
 | cons d l ih =>
   show (zX d++yw l).length=(l.length+1)*4
   rw [List.length_append,ih]
   show 4+_=_
   omega
theorem zqc (l:List Ed):∀i c,i<l.length->c<4->(yw l)[i*4+c]?=(zX (zM l i))[c]?:=by
 induction l with
 | nil=>intro i c h;exact absurd h (Nat.not_lt_zero _)
 | cons d l ih =>
   intro i c h hc
   show (zX d++yw l)[i*4+c]?=_
   have h3:(zX d).length=4:=rfl
   cases i with
   | zero =>
     rw [List.getElem?_append_left (by omega),Nat.zero_mul,Nat.zero_add]
     rfl
   | succ i =>
     rw [List.getElem?_append_right (by omega),h3,show (i+1)*4+c - 4=i*4+c from by omega,ih i c (by simpa using h) hc]
     rfl
def Z8 (w:World) (v:Value) (l:List Ed):Prop :=
 ∃ a cap,v=.slice a l.length cap/\l.length<=cap/\cap<=maxLen /\
   (0<l.length->∃blk off,a=some (ad blk off)/\blk<w.heap.size/\∀i,i<l.length->∀j,j<4->w.cell? (ad blk (off+i*4+j))=(zX (zM l i))[j]?)
theorem Z8.gE {l:List Ed} (h:Z8 w v l) (hb:Bw w w'):Z8 w' v l:=by
 obtain⟨a,cap,e,h1,h2,h4⟩:=h
 refine⟨a,cap,e,h1,h2,fun hp=>?_⟩
 obtain⟨b,off,e2,h5,h6⟩:=h4 hp
 exact⟨b,off,e2,Nat.lt_of_lt_of_le h5 hb.size,fun i hi j hj=>by rw [zf hb _ _ h5];exact h6 i hi j hj⟩
theorem zd3 (w:World) (a b c d:Value) (t:TypeId):∀(j:Nat) (u:Value),[a,b,c,d][j]?=some u->(w.alloc (.cells #[a,b,c,d] t)).cell? (((ad w.heap.size 0):Addr).add j)=some u:=by
 intro j u hj
 have hb:(w.alloc (.cells #[a,b,c,d] t)).heap[w.heap.size]?=some (.cells #[a,b,c,d] t (0,0)):=by
  show (w.heap.push _)[w.heap.size]?=_
  simp
 have ha:((ad w.heap.size 0):Addr).add j=(ad w.heap.size j):=by simp [Addr.add];omega
 rw [ha,cell_of_block hb]
 simpa using hj
theorem ziy {b o:Nat} {x:Ed} (h:∀j,j<4->w.cell? (ad b (o+j))=(zX x)[j]?) :
  w.cell? (ad b o)=sI x.fr/\w.cell? (ad b (o+1))=sI x.to/\w.cell? (ad b (o+2))=sI x.bk/\w.cell? (ad b (o+3))=sI x.wt :=
 ⟨h 0 (by omega),h 1 (by omega),h 2 (by omega),h 3 (by omega)⟩
def Xy (p:Int) (e:Ed):Int:=e.wt - p*e.bk
def zpa (l:List Ed) (p:Int):Prop:=∃h:Nat->Int,∀e∈l,h e.fr.toNat+Xy p e<=h e.to.toNat
def Xg (p:Int) (a:Nat->Int) (e:Ed):Nat->Int:=if a e.to.toNat<a e.fr.toNat+Xy p e then (fun v=>if v=e.to.toNat then a e.fr.toNat+Xy p e else a v) else a
def okE (p:Int) (a:Nat->Int) (e:Ed):Bool:=decide (a e.fr.toNat+Xy p e<=a e.to.toNat)
def yG (p:Int) (l:List Ed) (a:Nat->Int):Nat->Nat->Int
 | 0=>a
 | k+1=>Xg p (yG p l a k) (zM l k)
def zt (p:Int) (l:List Ed):Nat->Nat->Int
 | 0=>fun _=>0
 | r+1=>yG p l (zt p l r) l.length
def Zp (p:Int) (l:List Ed) (a:Nat->Int):Bool:=zC (fun k=>okE p a (zM l k)) l.length
def xo (n:Nat) (l:List Ed) (p:Int):Bool:=exN (fun r=>Zp p l (zt p l r)) (n+1)
theorem Xl {l:List Ed} {i:Nat} (h:i<l.length):zM l i∈l:=by
 unfold zM
 rw [List.getD,List.getElem?_eq_getElem h]
 exact List.getElem_mem _
theorem zc2 {l:List Ed} {e:Ed} (h:e∈l):∃i,i<l.length/\zM l i=e:=by
 obtain⟨i,hi,rfl⟩:=List.mem_iff_getElem.1 h
 exact⟨i,hi,by unfold zM;rw [List.getD,List.getElem?_eq_getElem hi];rfl⟩
theorem Zj {l:List Ed}:Zp p l a=true↔∀e∈l,a e.fr.toNat+Xy p e<=a e.to.toNat:=by
 unfold Zp
 constructor
 ·intro h e he
  obtain⟨i,hi,rfl⟩:=zc2 he
  exact of_decide_eq_true (zo h i hi)
 ·intro h
  exact zL fun i hi=>decide_eq_true (h _ (Xl hi))
theorem zk3 {l:List Ed} (h:xo n l p=true):zpa l p:=by
 obtain⟨r,-,hr⟩:=XY.1 h
 exact⟨zt p l r,Zj.1 hr⟩
theorem zw2 (p:Int) (a:Nat->Int) (e:Ed) (v:Nat):a v<=Xg p a e v:=by
 unfold Xg
 split
 ·rename_i h
  show a v<=if v=e.to.toNat then _ else a v
  by_cases e1:v=e.to.toNat
  ·rw [if_pos e1,e1];omega
  ·rw [if_neg e1];exact Int.le_refl _
 ·exact Int.le_refl _
theorem zw3 (p:Int) (a:Nat->Int) (e:Ed) (hne:True):a e.fr.toNat+Xy p e<=Xg p a e e.to.toNat:=by
 unfold Xg
 split
 ·show _<=if e.to.toNat=e.to.toNat then _ else _
  rw [if_pos rfl];exact Int.le_refl _
 ·omega
theorem zs0 {e:Ed} {v:Nat} (h:v≠e.to.toNat):Xg p a e v=a v:=by
 unfold Xg
 split
 ·exact if_neg h
 ·rfl
theorem zhq {e:Ed} {v:Nat} (h:Xg p a e v≠a v):v=e.to.toNat/\Xg p a e v=a e.fr.toNat+Xy p e:=by
 by_cases e1:v=e.to.toNat
 ·refine⟨e1,?_⟩
  subst e1
  unfold Xg at h ⊢
  split
  ·exact if_pos rfl
  ·rename_i h2;rw [if_neg h2] at h;exact absurd rfl h
 ·exact absurd (zs0 e1) h
theorem U9 (p:Int) (l:List Ed) (a:Nat->Int) (v:Nat):∀i j,i<=j->yG p l a i v<=yG p l a j v:=by
 intro i j h
 induction j with
 | zero => obtain rfl:i=0:=by omega
           exact Int.le_refl _
 | succ j ih =>
   by_cases e:i=j+1
   ·subst e;exact Int.le_refl _
   ·exact Int.le_trans (ih (by omega)) (zw2 _ _ _ _)
theorem ZR (p:Int) (l:List Ed) (v:Nat):∀r s,r<=s->zt p l r v<=zt p l s v:=by
 intro r s h
 induction s with
 | zero => obtain rfl:r=0:=by omega
           exact Int.le_refl _
 | succ s ih =>
   by_cases e:r=s+1
   ·subst e;exact Int.le_refl _
   ·exact Int.le_trans (ih (by omega)) (U9 p l _ v 0 _ (Nat.zero_le _))
theorem zs1 {e:Ed} (ha:∀v,a v<=H v) (he:H e.fr.toNat+Xy p e<=H e.to.toNat):∀v,Xg p a e v<=H v:=by
 intro v
 by_cases h:Xg p a e v=a v
 ·rw [h];exact ha v
 ·obtain⟨h1,h2⟩:=zhq h
  rw [h2,h1]
  have:=ha e.fr.toNat
  omega
theorem zdf {l:List Ed} (ha:∀v,a v<=H v) (hH:∀e∈l,H e.fr.toNat+Xy p e<=H e.to.toNat):∀k,k<=l.length->∀v,yG p l a k v<=H v:=by
 intro k
 induction k with
 | zero=>exact fun _=>ha
 | succ k ih=>exact fun hk=>zs1 (ih (by omega)) (hH _ (Xl hk))
theorem zbo {l:List Ed} (h0:∀v,0<=H v) (hH:∀e∈l,H e.fr.toNat+Xy p e<=H e.to.toNat):∀r v,zt p l r v<=H v:=by
 intro r
 induction r with
 | zero=>exact h0
 | succ r ih=>exact zdf ih hH _ (Nat.le_refl _)
def xe (f:Nat->Int):Nat->Int
 | 0=>0
 | n+1=>xe f n+f n
theorem zwd:∀n,(∀v,v<n->f v<=g v)->xe f n<=xe g n:=by
 intro n
 induction n with
 | zero=>exact fun _=>Int.le_refl _
 | succ n ih =>
   intro h
   have h1:=ih fun v hv=>h v (by omega)
   have h2:=h n (by omega)
   show xe f n+f n<=xe g n+g n
   omega
theorem yau:∀n,(∀v,v<n->f v<=g v)->(∃v,v<n/\f v<g v)->xe f n<xe g n:=by
 intro n
 induction n with
 | zero=>rintro _ ⟨v,hv,_⟩;omega
 | succ n ih =>
   rintro h ⟨v,hv,hlt⟩
   show xe f n+f n<xe g n+g n
   by_cases e:v=n
   ·subst e
    have:=zwd v fun u hu=>h u (by omega)
    omega
   ·have h1:=ih (fun u hu=>h u (by omega)) ⟨v,by omega,hlt⟩
    have h2:=h n (by omega)
    omega
theorem zmr {l:List Ed} (h:Zp p l a=false):∃e∈l,a e.to.toNat<yG p l a l.length e.to.toNat:=by
 have h1:¬∀e∈l,a e.fr.toNat+Xy p e<=a e.to.toNat:=fun h2=>by rw [Zj.2 h2] at h;exact Bool.noConfusion h
 obtain⟨e,he⟩:∃e,¬(e∈l->a e.fr.toNat+Xy p e<=a e.to.toNat):=Classical.not_forall.1 h1
 have hel:e∈l:=Classical.byContradiction fun h2=>he fun h3=>absurd h3 h2
 have hlt:¬a e.fr.toNat+Xy p e<=a e.to.toNat:=fun h2=>he fun _=>h2
 obtain⟨i,hi,rfl⟩:=zc2 hel
 refine⟨_,hel,?_⟩
 have h2:a (zM l i).fr.toNat+Xy p (zM l i)<=yG p l a (i+1) (zM l i).to.toNat:=by
  have h3:=zw3 p (yG p l a i) (zM l i) trivial
  have h4:=U9 p l a (zM l i).fr.toNat 0 i (Nat.zero_le _)
  have h5:a (zM l i).fr.toNat<=yG p l a i (zM l i).fr.toNat:=h4
  show _<=Xg p (yG p l a i) (zM l i) (zM l i).to.toNat
  omega
 have h3:=U9 p l a (zM l i).to.toNat (i+1) l.length hi
 omega
theorem zdv {l:List Ed} (hn:∀e∈l,e.fr.toNat<n/\e.to.toNat<n) (hf:zpa l p):∃r,Zp p l (zt p l r)=true:=by
 obtain⟨h,hh⟩:=hf
 obtain⟨C,hC⟩:∃C:Int,∀v,v<n->0<=h v+C:=by
  have:∀n,∃C:Int,∀v,v<n->0<=h v+C:=by
   intro n
   induction n with
   | zero=>exact⟨0,fun v hv=>absurd hv (Nat.not_lt_zero _)⟩
   | succ n ih =>
     obtain⟨C,hC⟩:=ih
     refine⟨max C (-(h n)),fun v hv=>?_⟩
     by_cases e:v=n
     ·subst e;omega
     ·have:=hC v (by omega);omega
  exact this n
 have hH0:∀v,0<=(fun v=>if v<n then h v+C else 0) v:=fun v=>by
  show 0<=if v<n then h v+C else 0
  split
  ·rename_i hv;exact hC v hv
  ·exact Int.le_refl _
 have hH:∀e∈l,(fun v=>if v<n then h v+C else 0) e.fr.toNat+Xy p e<=(fun v=>if v<n then h v+C else 0) e.to.toNat:=fun e he=>by
  obtain⟨h1,h2⟩:=hn e he
  have h3:=hh e he
  show (if e.fr.toNat<n then h e.fr.toNat+C else 0)+Xy p e<=if e.to.toNat<n then h e.to.toNat+C else 0
  rw [if_pos h1,if_pos h2]
  omega
 have hu:=zbo hH0 hH
 refine Classical.byContradiction fun hno=>?_
 have hall:∀r,Zp p l (zt p l r)=false:=fun r=>by
  cases e:Zp p l (zt p l r) with
  | false=>rfl
  | true=>exact absurd ⟨r,e⟩ hno
 have hsum:∀r:Nat,(r:Int)<=xe (zt p l r) n:=by
  intro r
  induction r with
  | zero =>
    have:∀n,xe (zt p l 0) n=0:=fun n=>by
     induction n with
     | zero=>rfl
     | succ n ih=>show xe (zt p l 0) n+0=0;omega
    rw [this];exact Int.le_refl _
  | succ r ih =>
    obtain⟨e,he,hlt⟩:=zmr (hall r)
    have:xe (zt p l r) n<xe (zt p l (r+1)) n:=yau n (fun v _=>ZR p l v r (r+1) (by omega)) ⟨_,(hn e he).2,hlt⟩
    omega
 have hb:∀r,xe (zt p l r) n<=xe (fun v=>if v<n then h v+C else 0) n:=fun r=>zwd n fun v _=>hu r v
 have h1:=hsum ((xe (fun v=>if v<n then h v+C else 0) n).toNat+1)
 have h2:=hb ((xe (fun v=>if v<n then h v+C else 0) n).toNat+1)
 omega
theorem zju {l:List Ed} (h:Zp p l (zt p l r)=true):∀s,r<=s->∀v,zt p l s v=zt p l r v:=by
 intro s hs v
 have h1:=ZR p l v r s hs
 have h2:zt p l s v<=zt p l r v:=by
  have key:∀s,r<=s->∀v,zt p l s v<=zt p l r v:=by
   intro s
   induction s with
   | zero => intro h0 v;obtain rfl:r=0:=by omega
             exact Int.le_refl _
   | succ s ih =>
     intro h0 v
     by_cases e:r=s+1
     ·subst e;exact Int.le_refl _
     ·exact zdf (ih (by omega)) (Zj.1 h) _ (Nat.le_refl _) v
  exact key s hs v
 omega
def YZ (p:Int) (l:List Ed) (m:Nat):Nat->Int:=yG p l (zt p l (m / l.length)) (m % l.length)
theorem X0 {l:List Ed} (hl:0<l.length) (r k:Nat) (hk:k<=l.length):YZ p l (r*l.length+k)=yG p l (zt p l r) k:=by
 unfold YZ
 by_cases e:k=l.length
 ·subst e
  have h1:(r*l.length+l.length) / l.length=r+1:=by rw [<-Nat.succ_mul];exact Nat.mul_div_cancel _ hl
  have h2:(r*l.length+l.length) % l.length=0:=by rw [<-Nat.succ_mul];exact Nat.mul_mod_left _ _
  rw [h1,h2];rfl
 ·have h1:(r*l.length+k) / l.length=r:=by rw [Nat.add_comm,Nat.add_mul_div_right _ _ hl,Nat.div_eq_of_lt (by omega),Nat.zero_add]
  have h2:(r*l.length+k) % l.length=k:=by rw [Nat.add_comm,Nat.add_mul_mod_self_right];exact Nat.mod_eq_of_lt (by omega)
  rw [h1,h2]
theorem zgc {l:List Ed} (hl:0<l.length) (m:Nat):YZ p l (m+1)=Xg p (YZ p l m) (zM l (m % l.length)):=by
 have hm:m=(m / l.length)*l.length+m % l.length:=by
  have:=Nat.div_add_mod m l.length
  rw [Nat.mul_comm] at this;exact this.symm
 have hk:m % l.length<l.length:=Nat.mod_lt _ hl
 have e1:YZ p l (m+1)=yG p l (zt p l (m / l.length)) (m % l.length+1):=by
  rw [<-X0 hl (m / l.length) (m % l.length+1) (by omega)]
  congr 1
  omega
 rw [e1]
 rfl
theorem zp0 {l:List Ed} (hl:0<l.length) (v:Nat):∀i j,i<=j->YZ p l i v<=YZ p l j v:=by
 intro i j h
 induction j with
 | zero => obtain rfl:i=0:=by omega
           exact Int.le_refl _
 | succ j ih =>
   by_cases e:i=j+1
   ·subst e;exact Int.le_refl _
   ·rw [zgc hl]
    exact Int.le_trans (ih (by omega)) (zw2 _ _ _ _)
def Z1 (x A:Nat->Int):Nat->Nat
 | 0=>0
 | n+1=>Z1 x A n+(if x n=A n then 0 else 1)
theorem zoi (x A:Nat->Int) (n:Nat):Z1 x A n<=n:=by
 induction n with
 | zero=>exact Nat.le_refl _
 | succ n ih =>
   show Z1 x A n+(if x n=A n then 0 else 1)<=n+1
   split <;> omega
theorem U7 (h:Z1 x A n=0):∀v,v<n->x v=A v:=by
 induction n with
 | zero=>intro v hv;omega
 | succ n ih =>
   intro v hv
   have h1:Z1 x A n+(if x n=A n then 0 else 1)=0:=h
   by_cases e:v=n
   ·subst e
    by_cases e2:x v=A v
    ·exact e2
    ·rw [if_neg e2] at h1;omega
   ·exact ih (by omega) v (by omega)
theorem zb9:∀n,(∀v,v<n->x v=A v->y v=A v)->Z1 y A n<=Z1 x A n:=by
 intro n
 induction n with
 | zero=>exact fun _=>Nat.le_refl _
 | succ n ih =>
   intro h
   have h1:=ih fun v hv=>h v (by omega)
   show Z1 y A n+(if y n=A n then 0 else 1)<=Z1 x A n+(if x n=A n then 0 else 1)
   by_cases e:x n=A n
   ·rw [if_pos e,if_pos (h n (by omega) e)];omega
   ·rw [if_neg e]
    split <;> omega
theorem zb8:∀n,(∀v,v<n->x v=A v->y v=A v)->(∃v,v<n/\x v≠A v/\y v=A v)->Z1 y A n<Z1 x A n:=by
 intro n
 induction n with
 | zero=>rintro _ ⟨v,hv,_⟩;omega
 | succ n ih =>
   rintro h ⟨v,hv,h1,h2⟩
   show Z1 y A n+(if y n=A n then 0 else 1)<Z1 x A n+(if x n=A n then 0 else 1)
   by_cases e:v=n
   ·subst e
    rw [if_neg h1,if_pos h2]
    have:=zb9 v fun u hu=>h u (by omega)
    omega
   ·have h3:=ih (fun u hu=>h u (by omega)) ⟨v,by omega,h1,h2⟩
    by_cases e2:x n=A n
    ·rw [if_pos e2,if_pos (h n (by omega) e2)];omega
    ·rw [if_neg e2]
     split <;> omega
theorem zfu (h:Z1 x A n≠0):∃v,v<n/\x v≠A v:=by
 refine Classical.byContradiction fun hno=>h ?_
 have:∀v,v<n->x v=A v:=fun v hv=>Classical.byContradiction fun h2=>hno ⟨v,hv,h2⟩
 clear h hno
 induction n with
 | zero=>rfl
 | succ n ih =>
   show Z1 x A n+(if x n=A n then 0 else 1)=0
   rw [ih fun v hv=>this v (by omega),if_pos (this n (by omega))]
theorem zuk {P:Nat->Prop} (h:∃m,P m):∃m,P m/\∀k,k<m->¬P k:=by
 obtain⟨m,hm⟩:=h
 induction m using Nat.strongRecOn with
 | _ m ih =>
   by_cases e:∃k,k<m/\P k
   ·obtain⟨k,hk,hp⟩:=e;exact ih k hk hp
   ·exact⟨m,hm,fun k hk hp=>e ⟨k,hk,hp⟩⟩
theorem zag {l:List Ed} (hl:0<l.length) (hn:∀e∈l,e.fr.toNat<n/\e.to.toNat<n) (hR:Zp p l (zt p l R)=true) (hr:r<=R) (ho:∃v,v<n/\zt p l r v≠zt p l R v) :
  ∃v,v<n/\zt p l r v≠zt p l R v/\zt p l (r+1) v=zt p l R v:=by
 have hA:∀m v,YZ p l m v<=zt p l R v:=fun m v=>by
  have h1:=zp0 (p:=p) hl v m ((R+m)*l.length) (by
   have:m<=(R+m)*l.length:=Nat.le_trans (Nat.le_add_left m R) (Nat.le_mul_of_pos_right _ hl)
   exact this)
  have h2:=X0 (p:=p) hl (R+m) 0 (Nat.zero_le _)
  rw [Nat.add_zero] at h2
  rw [h2] at h1
  have h3:yG p l (zt p l (R+m)) 0 v=zt p l (R+m) v:=rfl
  rw [h3,zju hR (R+m) (by omega) v] at h1
  exact h1
 have hx0:∀v,YZ p l (r*l.length) v=zt p l r v:=fun v=>by
  have:=X0 (p:=p) hl r 0 (Nat.zero_le _)
  rw [Nat.add_zero] at this
  rw [this];rfl
 have hx1:∀v,YZ p l (r*l.length+l.length) v=zt p l (r+1) v:=fun v=>by rw [X0 hl r l.length (Nat.le_refl _)];rfl
 obtain⟨m,hm,hmin⟩:=zuk (P:=fun m=>∃v,v<n/\zt p l r v≠zt p l R v/\YZ p l (r*l.length+m+1) v=zt p l R v) (by
  obtain⟨v,hv,hne⟩:=ho
  refine⟨(R - r)*l.length,v,hv,hne,?_⟩
  have h1:=zp0 (p:=p) hl v (R*l.length) (r*l.length+(R - r)*l.length+1) (by rw [<-Nat.add_mul,show r+(R - r)=R by omega];omega)
  have h2:=X0 (p:=p) hl R 0 (Nat.zero_le _)
  rw [Nat.add_zero] at h2
  rw [h2] at h1
  have h3:yG p l (zt p l R) 0 v=zt p l R v:=rfl
  rw [h3] at h1
  have h4:=hA (r*l.length+(R - r)*l.length+1) v
  omega)
 obtain⟨v,hv,hne,hset⟩:=hm
 have hbefore:∀u,u<n->zt p l r u≠zt p l R u->YZ p l (r*l.length+m) u≠zt p l R u:=fun u hu hne2 h2=>by
  cases m with
  | zero=>rw [Nat.add_zero,hx0] at h2;exact hne2 h2
  | succ m=>exact hmin m (by omega) ⟨u,hu,hne2,h2⟩
 have hold:=hbefore v hv hne
 rw [zgc hl] at hset
 have hnew:Xg p (YZ p l (r*l.length+m)) (zM l ((r*l.length+m) % l.length)) v≠YZ p l (r*l.length+m) v:=fun h2=>hold (by rw [<-h2];exact hset)
 obtain⟨hv2,hval⟩:=zhq hnew
 have hin:zM l ((r*l.length+m) % l.length)∈l:=Xl (Nat.mod_lt _ hl)
 generalize zM l ((r*l.length+m) % l.length)=e at *
 rw [hset] at hval
 have hpot:=Zj.1 hR e hin
 have hu1:=hA (r*l.length+m) e.fr.toNat
 rw [<-hv2] at hpot
 have hfr:YZ p l (r*l.length+m) e.fr.toNat=zt p l R e.fr.toNat:=by omega
 have hfr0:zt p l r e.fr.toNat=zt p l R e.fr.toNat:=Classical.byContradiction fun h2=>hbefore _ (hn e hin).1 h2 hfr
 refine⟨v,hv,hne,?_⟩
 obtain⟨i,hi,hei⟩:=zc2 hin
 have h1:zt p l R v<=yG p l (zt p l r) (i+1) v:=by
  have h3:=zw3 p (yG p l (zt p l r) i) e trivial
  have h4:=U9 p l (zt p l r) e.fr.toNat 0 i (Nat.zero_le _)
  have h5:zt p l r e.fr.toNat<=yG p l (zt p l r) i e.fr.toNat:=h4
  show _<=Xg p (yG p l (zt p l r) i) (zM l i) v
  rw [hei,hv2]
  rw [<-hv2] at h3 ⊢
  omega
 have h2:=U9 p l (zt p l r) v (i+1) l.length hi
 have h3:zt p l (r+1) v<=zt p l R v:=by rw [<-hx1];exact hA _ _
 have h4:yG p l (zt p l r) l.length v=zt p l (r+1) v:=rfl
 omega
theorem zbl {l:List Ed} (hn:∀e∈l,e.fr.toNat<n/\e.to.toNat<n) (hf:zpa l p):xo n l p=true:=by
 by_cases hl:0<l.length
 ·obtain⟨R,hR⟩:=zdv hn hf
  have hcnt:∀r,r<=R->Z1 (zt p l r) (zt p l R) n+r<=n\/Z1 (zt p l r) (zt p l R) n=0:=by
   intro r
   induction r with
   | zero=>exact fun _=>.inl (by have:=zoi (zt p l 0) (zt p l R) n;omega)
   | succ r ih =>
     intro hr
     have hkeep:∀v,v<n->zt p l r v=zt p l R v->zt p l (r+1) v=zt p l R v:=fun v _ h=>by
      have h1:=ZR p l v r (r+1) (by omega)
      have h2:=ZR p l v (r+1) R hr
      omega
     by_cases h0:Z1 (zt p l r) (zt p l R) n=0
     ·have:=zb9 n hkeep
      exact .inr (by omega)
     ·obtain⟨v,h1,h2,h3⟩:=zag hl hn hR (by omega) (zfu h0)
      have:=zb8 n hkeep ⟨v,h1,h2,h3⟩
      rcases ih (by omega) with h4 | h4
      ·exact .inl (by omega)
      ·exact absurd h4 h0
  by_cases hRn:R<=n
  ·exact Z0 (k:=R) (by omega) hR
  ·have h1:Z1 (zt p l n) (zt p l R) n=0:=by
    rcases hcnt n (by omega) with h | h
    ·omega
    ·exact h
   refine Z0 (k:=n) (by omega) (Zj.2 fun e he=>?_)
   have h2:=Zj.1 hR e he
   rw [U7 h1 _ (hn e he).1,U7 h1 _ (hn e he).2]
   exact h2
 ·have e:l=[]:=List.length_eq_zero_iff.1 (by omega)
  subst e
  exact Z0 (k:=0) (by omega) rfl
theorem zxm {l:List Ed} (hn:n<=16) (hl:∀e∈l,∃fr to bk wt:Nat,e=⟨fr,to,bk,wt⟩/\fr<n/\to<n/\(bk=0->fr<to)/\wt<=6):zpa l 96:=by
 refine⟨fun v=>6*v,fun e he=>?_⟩
 obtain⟨fr,to,bk,wt,rfl,h1,h2,h3,h4⟩:=hl e he
 unfold Xy
 show (6:Int)*(((fr:Int).toNat:Nat):Int)+((wt:Int) - 96*(bk:Int))<=6*(((to:Int).toNat:Nat):Int)
 rw [Int.toNat_natCast,Int.toNat_natCast]
 by_cases e:bk=0
 ·have:=h3 e;omega
 ·omega
def XM (n:Nat) (l:List Ed) (p:Int):Bool:=exN (fun r=>Zp p l (zt p l r)) n
theorem zve {l:List Ed} (hn1:1<=n) (hn:∀e∈l,e.fr.toNat<n/\e.to.toNat<n) (hR:Zp p l (zt p l R)=true):∃v,v<n/\zt p l R v=0:=by
 refine Classical.byContradiction fun hno=>?_
 have hpos:∀v,v<n->1<=zt p l R v:=fun v hv=>by
  have h0:(0:Int)<=zt p l R v:=ZR p l v 0 R (Nat.zero_le _)
  have h1:zt p l R v≠0:=fun h=>hno ⟨v,hv,h⟩
  omega
 have h2:=zbo (p:=p) (l:=l) (H:=fun v=>if v<n then zt p l R v - 1 else zt p l R v) (fun v=>by
  show (0:Int)<=if v<n then zt p l R v - 1 else zt p l R v
  split
  ·have:=hpos v (by assumption);omega
  ·exact ZR p l v 0 R (Nat.zero_le _)) (fun e he=>by
  obtain⟨h1,h2⟩:=hn e he
  show (if _<n then _ else _)+Xy p e<=(if _<n then _ else _)
  rw [if_pos h1,if_pos h2]
  have:=Zj.1 hR e he
  omega) R 0
 rw [if_pos (by omega)] at h2
 omega
theorem zh9 {l:List Ed} (hn1:1<=n) (hn:∀e∈l,e.fr.toNat<n/\e.to.toNat<n) (hf:zpa l p):XM n l p=true:=by
 by_cases hl:0<l.length
 ·obtain⟨R,hR⟩:=zdv hn hf
  have hcnt:∀r,r<=R->Z1 (zt p l r) (zt p l R) n+r+1<=n\/Z1 (zt p l r) (zt p l R) n=0:=by
   intro r
   induction r with
   | zero =>
     intro _
     obtain⟨v,hv,hz⟩:=zve hn1 hn hR
     have h1:Z1 (zt p l 0) (zt p l R) n<Z1 (fun v=>zt p l R v+1) (zt p l R) n:=zb8 n (fun v _ h=>by exfalso;have h2:zt p l R v+1=zt p l R v:=h;omega) ⟨v,hv,by show ¬zt p l R v+1=zt p l R v;omega,by rw [hz];rfl⟩
     have:=zoi (fun v=>zt p l R v+1) (zt p l R) n
     exact .inl (by omega)
   | succ r ih =>
     intro hr
     have hkeep:∀v,v<n->zt p l r v=zt p l R v->zt p l (r+1) v=zt p l R v:=fun v _ h=>by
      have h1:=ZR p l v r (r+1) (by omega)
      have h2:=ZR p l v (r+1) R hr
      omega
     by_cases h0:Z1 (zt p l r) (zt p l R) n=0
     ·have:=zb9 n hkeep
      exact .inr (by omega)
     ·obtain⟨v,h1,h2,h3⟩:=zag hl hn hR (by omega) (zfu h0)
      have:=zb8 n hkeep ⟨v,h1,h2,h3⟩
      rcases ih (by omega) with h4 | h4
      ·exact .inl (by omega)
      ·exact absurd h4 h0
  by_cases hRn:R<=n - 1
  ·exact Z0 (k:=R) (by omega) hR
  ·have h1:Z1 (zt p l (n - 1)) (zt p l R) n=0:=by
    rcases hcnt (n - 1) (by omega) with h | h
    ·omega
    ·exact h
   refine Z0 (k:=n - 1) (by omega) (Zj.2 fun e he=>?_)
   have h2:=Zj.1 hR e he
   rw [U7 h1 _ (hn e he).1,U7 h1 _ (hn e he).2]
   exact h2
 ·have e:l=[]:=List.length_eq_zero_iff.1 (by omega)
  subst e
  exact Z0 (k:=0) (by omega) rfl
theorem zdr {l:List Ed} (hn1:1<=n) (hn:∀e∈l,e.fr.toNat<n/\e.to.toNat<n):XM n l p=xo n l p:=by
 cases h:xo n l p with
 | true=>exact zh9 hn1 hn (zk3 h)
 | false =>
   cases h2:XM n l p with
   | false=>rfl
   | true =>
     obtain⟨r,h3,h4⟩:=XY.1 h2
     have:xo n l p=true:=Z0 (k:=r) (by omega) h4
     rw [h] at this;cases this
def YO (L:Lp) (c:Nat):Nat:=cnt (fun i=>decide (zW (zc L.b i).o=(c:Int))) L.b.length
def Yy (n u:Nat):Nat:=(n+u - 1) / u
theorem zda {u q:Nat} (hu:1<=u):n<=q*u↔Yy n u<=q:=by
 unfold Yy
 constructor
 ·intro h
  have h1:n+u - 1<(q+1)*u:=by rw [Nat.succ_mul];omega
  exact Nat.le_of_lt_succ (Nat.div_lt_of_lt_mul (by rw [Nat.mul_comm];exact h1))
 ·intro h
  have h1:=Nat.div_add_mod (n+u - 1) u
  have h2:=Nat.mod_lt (n+u - 1) (show u > 0 by omega)
  have h3:u*((n+u - 1) / u)<=u*q:=Nat.mul_le_mul_left _ h
  rw [Nat.mul_comm q u]
  omega
def Uo (L:Lp) (t:Tg):Nat->Nat
 | 0=>1
 | c+1=>max (Uo L t c) (Yy (YO L c) (ye t c).toNat)
def X7 (L:Lp) (t:Tg):Nat:=Uo L t 3
def YT (p:Nat->Bool):Nat->Nat->Nat
 | 0,s=>s
 | f+1,s=>if p s=true then s else YT p f (s+1)
theorem zcy {p:Nat->Bool}:∀f s,(∃q,s<=q/\q<=s+f/\p q=true)->p (YT p f s)=true/\s<=YT p f s/\YT p f s<=s+f/\∀q,s<=q->q<YT p f s->p q=false:=by
 intro f
 induction f with
 | zero =>
   rintro s ⟨q,h1,h2,h3⟩
   obtain rfl:q=s:=by omega
   exact⟨h3,Nat.le_refl _,Nat.le_refl _,fun q' h4 h5=>absurd h5 (by show ¬q'<q;omega)⟩
 | succ f ih =>
   rintro s ⟨q,h1,h2,h3⟩
   unfold YT
   by_cases h:p s=true
   ·rw [if_pos h];exact⟨h,Nat.le_refl _,by omega,fun q' h4 h5=>by omega⟩
   ·rw [if_neg h]
    have hq:q≠s:=fun e=>h (e ▸ h3)
    obtain⟨h4,h5,h6,h7⟩:=ih (s+1) ⟨q,by omega,by omega,h3⟩
    refine⟨h4,by omega,by omega,fun q' h8 h9=>?_⟩
    by_cases e:q'=s
    ·subst e;simpa using h
    ·exact h7 q' (by omega) h9
def ZA (L:Lp) (t:Tg):Nat:=YT (fun p=>xo L.b.length (zi L t) p) 95 1
theorem Zc (hm:zY L=true):∀e∈zi L t,∃fr to bk wt:Nat,e=⟨fr,to,bk,wt⟩/\fr<L.b.length/\to<L.b.length/\(bk=0->fr<to)/\wt<=6/\bk<=32:=by
 intro e he
 obtain⟨fr,to,b,x,h1,h2,rfl,h3⟩:=za2 _ he
 obtain⟨fr',to',bk',wt',h5,-,-,h8⟩:=zpz hm he
 have e1:(b:Int)=bk':=congrArg Ed.bk h5
 have e2:(fr:Int)=fr':=congrArg Ed.fr h5
 have e3:(to:Int)=to':=congrArg Ed.to h5
 refine⟨fr,to,b,x,rfl,h1,h2,fun h=>by have:=h8 (by omega);omega,?_⟩
 have hb:∀k,(⟨fr,to,b,x⟩:Ed)∈frD L t k->x<=6/\b<=32:=by
  have w1:∀{fr to bk:Nat} {e:Ed} k,e∈wtD L t fr to bk k->∃y:Nat,y<k/\e=⟨fr,to,bk,y⟩:=fun k h=>by
   obtain⟨y,h1,h2,_⟩:=zca k h;exact⟨y,h1,h2⟩
  have w2:∀{fr to:Nat} {e:Ed} k,e∈bkD L t fr to k->∃b y:Nat,b<k/\y<7/\e=⟨fr,to,b,y⟩:=by
   intro fr to e k
   induction k with
   | zero=>intro h;cases h
   | succ k ih =>
     intro h
     rcases List.mem_append.1 h with h | h
     ·obtain⟨b,y,h1,h2,h3⟩:=ih h;exact⟨b,y,by omega,h2,h3⟩
     ·obtain⟨y,h1,h2⟩:=w1 7 h;exact⟨k,y,by omega,h1,h2⟩
  have w3:∀{fr:Nat} {e:Ed} k,e∈toD L t fr k->∃to b y:Nat,b<33/\y<7/\e=⟨fr,to,b,y⟩:=by
   intro fr e k
   induction k with
   | zero=>intro h;cases h
   | succ k ih =>
     intro h
     rcases List.mem_append.1 h with h | h
     ·exact ih h
     ·obtain⟨b,y,h1,h2,h3⟩:=w2 33 h;exact⟨k,b,y,h1,h2,h3⟩
  intro k
  induction k with
  | zero=>intro h;cases h
  | succ k ih =>
    intro h
    rcases List.mem_append.1 h with h | h
    ·exact ih h
    ·obtain⟨to2,b2,y2,h1,h2,h3⟩:=w3 L.b.length h
     have f1:(b:Int)=b2:=congrArg Ed.bk h3
     have f2:(x:Int)=y2:=congrArg Ed.wt h3
     omega
 exact hb _ he
theorem VL (hm:zY L=true):∃q,1<=q/\q<=1+95/\(fun p:Nat=>xo L.b.length (zi L t) p) q=true:=by
 obtain⟨-,-,h16,-⟩:=zw hm
 have hok:=Zc (t:=t) hm
 refine⟨96,by omega,by omega,?_⟩
 exact zbl (fun e he=>by
  obtain⟨fr,to,bk,wt,rfl,h1,h2,_⟩:=hok e he
  exact⟨by show ((fr:Int)).toNat<_;rw [Int.toNat_natCast];exact h1,by show ((to:Int)).toNat<_;rw [Int.toNat_natCast];exact h2⟩) (zxm h16 fun e he=>by
   obtain⟨fr,to,bk,wt,h0,h1,h2,h3,h4,-⟩:=hok e he
   exact⟨fr,to,bk,wt,h0,h1,h2,h3,h4⟩)
def zaa (L:Lp) (P:Int) (T:List Int) (i j:Nat):Bool:=decide ((nth T j).tmod P=(nth T i).tmod P) && decide (zW (zc L.b j).o=zW (zc L.b i).o)
def Vg (L:Lp) (P:Int) (T:List Int) (i:Nat):Nat:=cnt (zaa L P T i) T.length
def XN (L:Lp) (t:Tg) (P:Int) (T:List Int) (i:Nat):Bool:=inR (nth T i) 0 1000 && decide ((Vg L P T i:Int)<=ye t (zW (zc L.b i).o))
def Vu (P:Int) (T:List Int) (e:Ed):Bool:=decide (nth T e.fr.toNat+e.wt<=nth T e.to.toNat+e.bk*P)
def zV (L:Lp) (t:Tg) (P:Int) (T:List Int):Bool :=
 zY L && yj t && inR P 1 200 && decide (T.length=L.b.length) && zC (XN L t P T) T.length && zC (fun i=>Vu P T (zM (zi L t) i)) (zi L t).length
theorem yd {P:Int} (h:zV L t P T=true):zY L=true/\yj t=true/\1<=P/\P<=200/\T.length=L.b.length/\zC (XN L t P T) T.length=true/\zC (fun i=>Vu P T (zM (zi L t) i)) (zi L t).length=true:=by
 unfold zV at h
 simp only [Bool.and_eq_true,decide_eq_true_eq] at h
 obtain⟨⟨⟨⟨⟨h1,h2⟩,h3⟩,h4⟩,h5⟩,h6⟩:=h
 have h3:=zx.1 h3
 exact⟨h1,h2,h3.1,h3.2,h4,h5,h6⟩
theorem zhh (h:zV L t P T=true):ZA L t<=P:=by
 obtain⟨hm,-,hp1,hp2,-,-,hE⟩:=yd h
 have hok:=Zc (t:=t) hm
 have hfe:zpa (zi L t) P:=⟨fun v=>nth T v,fun e he=>by
  obtain⟨i,hi,rfl⟩:=zc2 he
  have h1:=of_decide_eq_true (zo hE i hi)
  unfold Xy
  have h2:(zM (zi L t) i).bk*(P:Int)=(P:Int)*(zM (zi L t) i).bk:=Int.mul_comm _ _
  rw [h2] at h1
  show nth T (zM (zi L t) i).fr.toNat+((zM (zi L t) i).wt - (P:Int)*(zM (zi L t) i).bk)<=nth T (zM (zi L t) i).to.toNat
  omega⟩
 have hr:xo L.b.length (zi L t) P=true:=zbl (fun e he=>by
  obtain⟨fr,to,bk,wt,rfl,h1,h2,_⟩:=hok e he
  exact⟨by show ((fr:Int)).toNat<_;rw [Int.toNat_natCast];exact h1,by show ((to:Int)).toNat<_;rw [Int.toNat_natCast];exact h2⟩) hfe
 obtain⟨h1,h2,h3,h4⟩:=zcy 95 1 (VL (t:=t) hm)
 refine Classical.byContradiction fun hlt=>?_
 have h5:=h4 P (by omega) (by show P<ZA L t;omega)
 rw [hr] at h5
 cases h5
theorem zpp (p:Nat->Bool) (k:Nat->Nat) (m:Nat):∀n,(∀i,i<n->p i=true->k i<m)->cnt p n=(List.range m).foldl (fun s c=>s+cnt (fun i=>p i && decide (k i=c)) n) 0:=by
 have hz:∀(f:Nat->Nat) (m a:Nat),(List.range m).foldl (fun s c=>s+f c) a=a+(List.range m).foldl (fun s c=>s+f c) 0:=by
  intro f m
  induction m with
  | zero=>intro a;simp
  | succ m ih =>
    intro a
    rw [List.range_succ,List.foldl_append,List.foldl_append,ih a]
    simp
    omega
 have hadd:∀(f g:Nat->Nat) (m:Nat),(List.range m).foldl (fun s c=>s+(f c+g c)) 0=(List.range m).foldl (fun s c=>s+f c) 0+(List.range m).foldl (fun s c=>s+g c) 0:=by
  intro f g m
  induction m with
  | zero=>rfl
  | succ m ih =>
    rw [List.range_succ,List.foldl_append,List.foldl_append,List.foldl_append,ih]
    simp
    omega
 have hone:∀(q m:Nat),q<m->(List.range m).foldl (fun s c=>s+(if q=c then 1 else 0)) 0=1:=by
  intro q m
  induction m with
  | zero=>intro h;omega
  | succ m ih =>
    intro h
    rw [List.range_succ,List.foldl_append]
    by_cases e:q=m
    ·subst e
     have h0:∀m,m<=q->(List.range m).foldl (fun s c=>s+(if q=c then 1 else 0)) 0=0:=by
      intro m
      induction m with
      | zero=>intro _;rfl
      | succ m ih=>intro hm;rw [List.range_succ,List.foldl_append,ih (by omega)];simp;omega
     rw [h0 q (Nat.le_refl _)];simp
    ·rw [ih (by omega)];simp [e]
 have hzero:∀m,(List.range m).foldl (fun s c=>s+0) 0=0:=by
  intro m
  induction m with
  | zero=>rfl
  | succ m ih=>rw [List.range_succ,List.foldl_append,ih];rfl
 intro n
 induction n with
 | zero=>intro _;exact (hzero m).symm
 | succ n ih =>
   intro h
   have h1:=ih fun i hi=>h i (by omega)
   have h2:(fun (s c:Nat)=>s+cnt (fun i=>p i && decide (k i=c)) (n+1))=fun s c=>s+(cnt (fun i=>p i && decide (k i=c)) n+(if (p n && decide (k n=c))=true then 1 else 0)):=rfl
   rw [h2,hadd,<-h1]
   show cnt p n+(if p n=true then 1 else 0)=_
   cases hp:p n with
   | false =>
     have h3:(fun (s c:Nat)=>s+(if (false && decide (k n=c))=true then 1 else 0))=fun s c=>s+0:=by funext s c;simp
     rw [h3,hzero];rfl
   | true =>
     have h3:(fun (s c:Nat)=>s+(if (true && decide (k n=c))=true then 1 else 0))=fun s c=>s+(if k n=c then 1 else 0):=by funext s c;simp
     rw [h3,hone _ _ (h n (by omega) hp)];rfl
theorem zu3 (f:Nat->Nat) (u:Nat):∀m,(∀c,c<m->f c<=u)->(List.range m).foldl (fun s c=>s+f c) 0<=m*u:=by
 intro m
 induction m with
 | zero=>intro _;simp
 | succ m ih =>
   intro h
   rw [List.range_succ,List.foldl_append]
   have h1:=ih fun c hc=>h c (by omega)
   have h2:=h m (by omega)
   simp only [List.foldl_cons,List.foldl_nil]
   rw [Nat.succ_mul]
   omega
theorem ZG (p:Nat->Bool) (n:Nat):cnt p n=0\/∃i,i<n/\p i=true:=by
 induction n with
 | zero=>exact .inl rfl
 | succ n ih =>
   cases hp:p n with
   | true=>exact .inr ⟨n,by omega,hp⟩
   | false =>
     rcases ih with h | ⟨i,h1,h2⟩
     ·exact .inl (by show cnt p n+(if p n=true then 1 else 0)=0;rw [hp,h];rfl)
     ·exact .inr ⟨i,by omega,h2⟩
theorem zh2 {p q:Nat->Bool} (h:∀i,i<n->p i=true->q i=true):cnt p n<=cnt q n:=by
 induction n with
 | zero=>exact Nat.le_refl _
 | succ n ih =>
   have h1:=ih fun i hi=>h i (by omega)
   show cnt p n+(if p n=true then 1 else 0)<=cnt q n+(if q n=true then 1 else 0)
   cases hp:p n with
   | false=>simp;omega
   | true=>rw [h n (by omega) hp];omega
theorem zjc (h:zV L t P T=true):X7 L t<=P:=by
 obtain⟨hm,hmt,hp1,hp2,hlen,hT,-⟩:=yd h
 have hP:1<=P:=by omega
 have hT':∀i,i<T.length->0<=nth T i/\((Vg L P T i:Int)<=ye t (zW (zc L.b i).o)):=fun i hi=>by
  have h1:=zo hT i hi
  unfold XN at h1
  simp only [Bool.and_eq_true,decide_eq_true_eq] at h1
  exact⟨(zx.1 h1.1).1,h1.2⟩
 have hu:∀c:Nat,1<=ye t c:=fun c=>by
  obtain⟨h1,h2,h3,-,-⟩:=ym hmt
  have h1:=yn h1
  have h2:=yn h2
  have h3:=yn h3
  unfold ye
  split
  ·omega
  ·split <;> omega
 have hcls:∀c:Nat,c<3->Yy (YO L c) (ye t c).toNat<=P:=fun c hc=>by
  refine (zda (by have:=hu c;omega)).1 ?_
  have h1:=zpp (fun i=>decide (zW (zc L.b i).o=(c:Int))) (fun i=>((nth T i) % (P:Int)).toNat) P L.b.length (fun i hi _=>by
   have:=Int.emod_lt_of_pos (nth T i) (show (0:Int)<P by omega)
   have:=Int.emod_nonneg (nth T i) (show (P:Int)≠0 by omega)
   show ((nth T i) % (P:Int)).toNat<P
   omega)
  unfold YO
  rw [h1]
  refine zu3 _ _ P fun s hs=>?_
  rcases ZG (fun i=>decide (zW (zc L.b i).o=(c:Int)) && decide (((nth T i) % (P:Int)).toNat=s)) L.b.length with h0 | ⟨i,hi,hpi⟩
  ·rw [h0];exact Nat.zero_le _
  ·simp only [Bool.and_eq_true,decide_eq_true_eq] at hpi
   obtain⟨hc1,hs1⟩:=hpi
   have h2:=(hT' i (by omega)).2
   rw [hc1] at h2
   have h3:cnt (fun j=>decide (zW (zc L.b j).o=(c:Int)) && decide (((nth T j) % (P:Int)).toNat=s)) L.b.length<=Vg L P T i:=by
    unfold Vg
    rw [hlen]
    refine zh2 fun j hj hpj=>?_
    simp only [Bool.and_eq_true,decide_eq_true_eq] at hpj
    unfold zaa
    have e1:=(hT' i (by omega)).1
    have e2:=(hT' j (by omega)).1
    have e3:=Int.emod_nonneg (nth T i) (show (P:Int)≠0 by omega)
    have e4:=Int.emod_nonneg (nth T j) (show (P:Int)≠0 by omega)
    rw [Int.tmod_eq_emod_of_nonneg e1,Int.tmod_eq_emod_of_nonneg e2,decide_eq_true (by omega),decide_eq_true (by rw [hc1];exact hpj.1)]
    rfl
   have:=hu c
   omega
 have h0:=hcls 0 (by omega)
 have h1:=hcls 1 (by omega)
 have h2:=hcls 2 (by omega)
 show max (max (max 1 (Yy (YO L 0) (ye t (0:Nat)).toNat)) (Yy (YO L 1) (ye t (1:Nat)).toNat)) (Yy (YO L 2) (ye t (2:Nat)).toNat)<=P
 omega
theorem zsv (L:Lp) (t:Tg):1<=X7 L t:=by
 show 1<=max (max (max 1 _) _) _
 omega
end Go.Proofs.YtjoapiafpahihabGreat
