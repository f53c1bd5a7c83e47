import Derived.Test.YtjoapiafpahihabGreatMaths
import Derived.Test.YtjoapiafpahihabGreatBase
import Derived.Test.YtjoapiafpahihabGreatLoopStmt
namespace Go.Proofs.YtjoapiafpahihabGreat
open Go.RowKit Go.Joins
set_option linter.unusedVariables false
def ZQ (d:Du):List Value:=[iV d.at_,iV d.rg,iV d.v]
def Xd (l:List Du):List Value:=l.flatMap ZQ
theorem zff (l:List Du) (d:Du):Xd l++ZQ d=Xd (l++[d]):=by unfold Xd;simp
theorem ziw (l:List Du):∀i c,i<l.length->c<3->(Xd l)[i*3+c]?=(ZQ (zrq l i))[c]?:=by
 induction l with
 | nil=>intro i c h;exact absurd h (Nat.not_lt_zero _)
 | cons d l ih =>
   intro i c h hc
   show (ZQ d++Xd l)[i*3+c]?=_
   have h3:(ZQ d).length=3:=rfl
   cases i with
   | zero =>
     rw [List.getElem?_append_left (by omega),Nat.zero_mul,Nat.zero_add]
     rfl
   | succ i =>
     rw [List.getElem?_append_right (by omega),h3,show (i+1)*3+c - 3=i*3+c from by omega,ih i c (by simpa using h) hc]
     rfl
theorem ye {w:World} {base sz:Nat} {e:TypeId} {v:Value} {n:Nat} {xs:List Value} (h:w.ownsRow base e sz v n xs):∀k,v.ownBlock=some k->base<=k:=by
 obtain⟨hl,h⟩:=h
 rcases h with ⟨rfl,_⟩ | ⟨g',cap,cur,rfl,hg,hk,r⟩
 ·intro k h;cases h
 ·intro k h
  have:g'=k:=by simpa [Value.ownBlock] using h
  omega
theorem yZ {w:World} {base sz:Nat} {e:TypeId} {v:Value} {n:Nat} {xs:List Value} (h:w.ownsRow base e sz v n xs):∀k,v.ownBlock=some k->k<w.heap.size:=by
 obtain⟨hl,h⟩:=h
 rcases h with ⟨rfl,_⟩ | ⟨g',cap,cur,rfl,hg,hk,r⟩
 ·intro k h;cases h
 ·intro k h
  have e:g'=k:=by simpa [Value.ownBlock] using h
  subst e
  exact (Array.getElem?_eq_some_iff.1 hk).1
theorem ZE {w:World} {base sz:Nat} {e e':TypeId} {v:Value} {n m:Nat} {xs:List Value} {g:Nat} {f:Nat->Value} (h:w.ownsRow base e sz v n xs) (hr:zg w g e' m f) (he:e'≠e):some g≠v.ownBlock:=by
 obtain⟨hl,h⟩:=h
 rcases h with ⟨rfl,_⟩ | ⟨g',cap,cur,rfl,hg,hk,r⟩
 ·intro h;cases h
 ·intro h
  have hgg:g=g':=by simpa [Value.ownBlock] using h
  subst hgg
  obtain⟨c,hb,_,_⟩:=hr
  rw [hk] at hb
  have h1:=Option.some.inj hb
  injection h1 with _ h2
  exact he h2.symm
theorem zS {w:World} {base sz:Nat} {e:TypeId} {v:Value} {n:Nat} {xs:List Value} (h:w.ownsRow base e sz v n xs):∃a cap,v=.slice a n cap/\n<=cap/\cap<=maxLen:=by
 obtain⟨hl,h⟩:=h
 rcases h with ⟨rfl,rfl⟩ | ⟨g,cap,cur,rfl,hg,hb,hn,hm,r⟩
 ·exact⟨none,0,rfl,Nat.le_refl _,Nat.zero_le _⟩
 ·exact⟨_,cap,rfl,hn,hm⟩
theorem ztv {w:World} {base base' sz:Nat} {e:TypeId} {v:Value} {n:Nat} {xs:List Value} (h:w.ownsRow base e sz v n xs) (hb:base'<=base):w.ownsRow base' e sz v n xs:=by
 obtain⟨hl,h⟩:=h
 refine⟨hl,?_⟩
 rcases h with h | ⟨g,cap,cur,hv,hg,r⟩
 ·exact .inl h
 ·exact .inr ⟨g,cap,cur,hv,by omega,r⟩
theorem Y3 {w w':World} {base sz:Nat} {e:TypeId} {v:Value} {n:Nat} {xs:List Value} (h:w.ownsRow base e sz v n xs) (hk:∀g,v.ownBlock=some g->w'.heap[g]?=w.heap[g]?):w'.ownsRow base e sz v n xs:=by
 obtain⟨hl,h⟩:=h
 refine⟨hl,?_⟩
 rcases h with h | ⟨g,cap,cur,hv,hg,hb,r⟩
 ·exact .inl h
 ·exact .inr ⟨g,cap,cur,hv,hg,by rw [hk g (by rw [hv];rfl)];exact hb,r⟩
theorem zmw {w:World} {base base' sz sz':Nat} {e e':TypeId} {v v':Value} {n n':Nat} {xs xs':List Value} (h:w.ownsRow base e sz v n xs) (h':w.ownsRow base' e' sz' v' n' xs') (he:e≠e'):∀g,v.ownBlock=some g->some g≠v'.ownBlock:=by
 intro g hg hg'
 obtain⟨_,h⟩:=h
 obtain⟨_,h'⟩:=h'
 rcases h with ⟨rfl,_⟩ | ⟨g1,c1,cur1,rfl,_,hb1,_⟩
 ·cases hg
 rcases h' with ⟨rfl,_⟩ | ⟨g2,c2,cur2,rfl,_,hb2,_⟩
 ·cases hg'
 have e1:g1=g:=by simpa [Value.ownBlock] using hg
 have e2:g=g2:=by simpa [Value.ownBlock] using hg'
 subst e1;subst e2
 rw [hb1] at hb2
 have h1:=Option.some.inj hb2
 injection h1 with _ h2
 exact he h2
theorem zin {w:World} {base:Nat} {e:TypeId} {v:Value} {l:List Du} (h:w.ownsRow base e 3 v l.length (Xd l)) (hp:0<l.length) :
  ∃ g cap,v=.slice (some ⟨g,0,none⟩) l.length cap/\base<=g/\l.length<=cap/\cap<=maxLen/\g<w.heap.size /\
    ∀i,i<l.length->w.cell? ⟨g,i*3,none⟩=some (iV (zrq l i).at_)/\w.cell? ⟨g,i*3+1,none⟩=some (iV (zrq l i).rg)/\w.cell? ⟨g,i*3+2,none⟩=some (iV (zrq l i).v):=by
 obtain⟨hl,h⟩:=h
 rcases h with ⟨_,hn⟩ | ⟨g,cap,cur,rfl,hg,hb,hn,hm,hc,ht⟩
 ·omega
 ·have key:∀i c,i<l.length->c<3->w.cell? ⟨g,i*3+c,none⟩=(ZQ (zrq l i))[c]?:=fun i c hi hc3=>by
   rw [cell_of_block hb,<-ziw l i c hi hc3,<-ht,List.getElem?_take,if_pos (by omega)]
   simp
  exact⟨g,cap,rfl,hg,hn,hm,(Array.getElem?_eq_some_iff.1 hb).1,fun i hi=>⟨key i 0 hi (by omega),key i 1 hi (by omega),key i 2 hi (by omega)⟩⟩
theorem zei (w:World) (a b c:Value) (t:TypeId):∀(j:Nat) (u:Value),[a,b,c][j]?=some u->(w.alloc (.cells #[a,b,c] t)).cell? ((⟨w.heap.size,0,none⟩:Addr).add j)=some u:=by
 intro j u hj
 have hb:(w.alloc (.cells #[a,b,c] t)).heap[w.heap.size]?=some (.cells #[a,b,c] t (0,0)):=by
  show (w.heap.push _)[w.heap.size]?=_
  simp
 have ha:(⟨w.heap.size,0,none⟩:Addr).add j=⟨w.heap.size,j,none⟩:=by simp [Addr.add];omega
 rw [ha,cell_of_block hb]
 simpa using hj
def Ed.nil:Ed:=⟨0,0,0,0⟩
def zu (l:List Ed) (i:Nat):Ed:=l.getD i Ed.nil
def zG (d:Ed):List Value:=[iV d.fr,iV d.to,iV d.bk,iV d.wt]
def zO (l:List Ed):List Value:=l.flatMap zG
theorem Xm (l:List Ed) (d:Ed):zO l++zG d=zO (l++[d]):=by unfold zO;simp
theorem X1 (l:List Ed):(zO l).length=l.length*4:=by
 induction l with
 | nil=>rfl
 | cons d l ih =>
   show (zG d++zO l).length=(l.length+1)*4
   rw [List.length_append,ih]
   show 4+_=_
   omega
theorem za9 (l:List Ed):∀i c,i<l.length->c<4->(zO l)[i*4+c]?=(zG (zu l i))[c]?:=by
 induction l with
 | nil=>intro i c h;exact absurd h (Nat.not_lt_zero _)
 | cons d l ih =>
   intro i c h hc
   show (zG d++zO l)[i*4+c]?=_
   have h3:(zG d).length=4:=rfl
   cases i with
   | zero =>
     rw [List.getElem?_append_left (by omega),Nat.zero_mul,Nat.zero_add]
     rfl
   | succ i =>
     rw [List.getElem?_append_right (by omega),h3,show (i+1)*4+c - 4=i*4+c from by omega,ih i c (by simpa using h) hc]
     rfl
def yP (w:World) (v:Value) (l:List Ed):Prop :=
 ∃ a cap,v=.slice a l.length cap/\l.length<=cap/\cap<=maxLen /\
   (0<l.length->∃blk off,a=some ⟨blk,off,none⟩/\blk<w.heap.size/\∀i,i<l.length->∀j,j<4->w.cell? ⟨blk,off+i*4+j,none⟩=(zG (zu l i))[j]?)
theorem yP.below {w w':World} {v:Value} {l:List Ed} (h:yP w v l) (hb:Below w.heap.size w w'):yP w' v l:=by
 obtain⟨a,cap,e,h1,h2,h4⟩:=h
 refine⟨a,cap,e,h1,h2,fun hp=>?_⟩
 obtain⟨b,off,e2,h5,h6⟩:=h4 hp
 exact⟨b,off,e2,Nat.lt_of_lt_of_le h5 hb.size,fun i hi j hj=>by rw [zc hb _ _ h5];exact h6 i hi j hj⟩
theorem Xn (w:World) (a b c d:Value) (t:TypeId):∀(j:Nat) (u:Value),[a,b,c,d][j]?=some u->(w.alloc (.cells #[a,b,c,d] t)).cell? ((⟨w.heap.size,0,none⟩:Addr).add j)=some u:=by
 intro j u hj
 have hb:(w.alloc (.cells #[a,b,c,d] t)).heap[w.heap.size]?=some (.cells #[a,b,c,d] t (0,0)):=by
  show (w.heap.push _)[w.heap.size]?=_
  simp
 have ha:(⟨w.heap.size,0,none⟩:Addr).add j=⟨w.heap.size,j,none⟩:=by simp [Addr.add];omega
 rw [ha,cell_of_block hb]
 simpa using hj
theorem zac {w:World} {b o:Nat} {x:Ed} (h:∀j,j<4->w.cell? ⟨b,o+j,none⟩=(zG x)[j]?) :
  w.cell? ⟨b,o,none⟩=some (iV x.fr)/\w.cell? ⟨b,o+1,none⟩=some (iV x.to)/\w.cell? ⟨b,o+2,none⟩=some (iV x.bk)/\w.cell? ⟨b,o+3,none⟩=some (iV x.wt) :=
 ⟨h 0 (by omega),h 1 (by omega),h 2 (by omega),h 3 (by omega)⟩
def ZY (p:Int) (e:Ed):Int:=e.wt - p*e.bk
def zi6 (l:List Ed) (p:Int):Prop:=∃h:Nat->Int,∀e∈l,h e.fr.toNat+ZY p e<=h e.to.toNat
def Zo (p:Int) (a:Nat->Int) (e:Ed):Nat->Int:=if a e.to.toNat<a e.fr.toNat+ZY p e then (fun v=>if v=e.to.toNat then a e.fr.toNat+ZY p e else a v) else a
def okE (p:Int) (a:Nat->Int) (e:Ed):Bool:=decide (a e.fr.toNat+ZY p e<=a e.to.toNat)
def zQ (p:Int) (l:List Ed) (a:Nat->Int):Nat->Nat->Int
 | 0=>a
 | k+1=>Zo p (zQ p l a k) (zu l k)
def zro (p:Int) (l:List Ed):Nat->Nat->Int
 | 0=>fun _=>0
 | r+1=>zQ p l (zro p l r) l.length
def xw (p:Int) (l:List Ed) (a:Nat->Int):Bool:=zh (fun k=>okE p a (zu l k)) l.length
def yn (n:Nat) (l:List Ed) (p:Int):Bool:=exN (fun r=>xw p l (zro p l r)) (n+1)
theorem Zf {l:List Ed} {i:Nat} (h:i<l.length):zu l i∈l:=by
 unfold zu
 rw [List.getD,List.getElem?_eq_getElem h]
 exact List.getElem_mem _
theorem VP {l:List Ed} {e:Ed} (h:e∈l):∃i,i<l.length/\zu l i=e:=by
 obtain⟨i,hi,rfl⟩:=List.mem_iff_getElem.1 h
 exact⟨i,hi,by unfold zu;rw [List.getD,List.getElem?_eq_getElem hi];rfl⟩
theorem xE {p:Int} {l:List Ed} {a:Nat->Int}:xw p l a=true↔∀e∈l,a e.fr.toNat+ZY p e<=a e.to.toNat:=by
 unfold xw
 constructor
 ·intro h e he
  obtain⟨i,hi,rfl⟩:=VP he
  exact of_decide_eq_true (zl h i hi)
 ·intro h
  exact zN fun i hi=>decide_eq_true (h _ (Zf hi))
theorem ze2 {n:Nat} {l:List Ed} {p:Int} (h:yn n l p=true):zi6 l p:=by
 obtain⟨r,-,hr⟩:=Yf.1 h
 exact⟨zro p l r,xE.1 hr⟩
theorem znb (p:Int) (a:Nat->Int) (e:Ed) (v:Nat):a v<=Zo p a e v:=by
 unfold Zo
 split
 ·rename_i h
  show a v<=if v=e.to.toNat then _ else a v
  by_cases e1:v=e.to.toNat
  ·rw [if_pos e1,e1];omega
  ·rw [if_neg e1];exact Int.le_refl _
 ·exact Int.le_refl _
theorem znc (p:Int) (a:Nat->Int) (e:Ed) (hne:True):a e.fr.toNat+ZY p e<=Zo p a e e.to.toNat:=by
 unfold Zo
 split
 ·show _<=if e.to.toNat=e.to.toNat then _ else _
  rw [if_pos rfl];exact Int.le_refl _
 ·omega
theorem zk4 {p:Int} {a:Nat->Int} {e:Ed} {v:Nat} (h:v≠e.to.toNat):Zo p a e v=a v:=by
 unfold Zo
 split
 ·exact if_neg h
 ·rfl
theorem zc9 {p:Int} {a:Nat->Int} {e:Ed} {v:Nat} (h:Zo p a e v≠a v):v=e.to.toNat/\Zo p a e v=a e.fr.toNat+ZY p e:=by
 by_cases e1:v=e.to.toNat
 ·refine⟨e1,?_⟩
  subst e1
  unfold Zo at h ⊢
  split
  ·exact if_pos rfl
  ·rename_i h2;rw [if_neg h2] at h;exact absurd rfl h
 ·exact absurd (zk4 e1) h
theorem X8 (p:Int) (l:List Ed) (a:Nat->Int) (v:Nat):∀i j,i<=j->zQ p l a i v<=zQ p l a j v:=by
 intro i j h
 induction j with
 | zero => obtain rfl:i=0:=by omega
           exact Int.le_refl _
 | succ j ih =>
   by_cases e:i=j+1
   ·subst e;exact Int.le_refl _
   ·exact Int.le_trans (ih (by omega)) (znb _ _ _ _)
theorem xY (p:Int) (l:List Ed) (v:Nat):∀r s,r<=s->zro p l r v<=zro p l s v:=by
 intro r s h
 induction s with
 | zero => obtain rfl:r=0:=by omega
           exact Int.le_refl _
 | succ s ih =>
   by_cases e:r=s+1
   ·subst e;exact Int.le_refl _
   ·exact Int.le_trans (ih (by omega)) (X8 p l _ v 0 _ (Nat.zero_le _))
theorem zk5 {p:Int} {a H:Nat->Int} {e:Ed} (ha:∀v,a v<=H v) (he:H e.fr.toNat+ZY p e<=H e.to.toNat):∀v,Zo p a e v<=H v:=by
 intro v
 by_cases h:Zo p a e v=a v
 ·rw [h];exact ha v
 ·obtain⟨h1,h2⟩:=zc9 h
  rw [h2,h1]
  have:=ha e.fr.toNat
  omega
theorem Uv {p:Int} {l:List Ed} {a H:Nat->Int} (ha:∀v,a v<=H v) (hH:∀e∈l,H e.fr.toNat+ZY p e<=H e.to.toNat):∀k,k<=l.length->∀v,zQ p l a k v<=H v:=by
 intro k
 induction k with
 | zero=>exact fun _=>ha
 | succ k ih=>exact fun hk=>zk5 (ih (by omega)) (hH _ (Zf hk))
theorem VA {p:Int} {l:List Ed} {H:Nat->Int} (h0:∀v,0<=H v) (hH:∀e∈l,H e.fr.toNat+ZY p e<=H e.to.toNat):∀r v,zro p l r v<=H v:=by
 intro r
 induction r with
 | zero=>exact h0
 | succ r ih=>exact Uv ih hH _ (Nat.le_refl _)
def yH (f:Nat->Int):Nat->Int
 | 0=>0
 | n+1=>yH f n+f n
theorem zns {f g:Nat->Int}:∀n,(∀v,v<n->f v<=g v)->yH f n<=yH g n:=by
 intro n
 induction n with
 | zero=>exact fun _=>Int.le_refl _
 | succ n ih =>
   intro h
   have h1:=ih fun v hv=>h v (by omega)
   have h2:=h n (by omega)
   show yH f n+f n<=yH g n+g n
   omega
theorem zqy {f g:Nat->Int}:∀n,(∀v,v<n->f v<=g v)->(∃v,v<n/\f v<g v)->yH f n<yH g n:=by
 intro n
 induction n with
 | zero=>rintro _ ⟨v,hv,_⟩;omega
 | succ n ih =>
   rintro h ⟨v,hv,hlt⟩
   show yH f n+f n<yH g n+g n
   by_cases e:v=n
   ·subst e
    have:=zns v fun u hu=>h u (by omega)
    omega
   ·have h1:=ih (fun u hu=>h u (by omega)) ⟨v,by omega,hlt⟩
    have h2:=h n (by omega)
    omega
theorem zfw {p:Int} {l:List Ed} {a:Nat->Int} (h:xw p l a=false):∃e∈l,a e.to.toNat<zQ p l a l.length e.to.toNat:=by
 have h1:¬∀e∈l,a e.fr.toNat+ZY p e<=a e.to.toNat:=fun h2=>by rw [xE.2 h2] at h;exact Bool.noConfusion h
 obtain⟨e,he⟩:∃e,¬(e∈l->a e.fr.toNat+ZY p e<=a e.to.toNat):=Classical.not_forall.1 h1
 have hel:e∈l:=Classical.byContradiction fun h2=>he fun h3=>absurd h3 h2
 have hlt:¬a e.fr.toNat+ZY p e<=a e.to.toNat:=fun h2=>he fun _=>h2
 obtain⟨i,hi,rfl⟩:=VP hel
 refine⟨_,hel,?_⟩
 have h2:a (zu l i).fr.toNat+ZY p (zu l i)<=zQ p l a (i+1) (zu l i).to.toNat:=by
  have h3:=znc p (zQ p l a i) (zu l i) trivial
  have h4:=X8 p l a (zu l i).fr.toNat 0 i (Nat.zero_le _)
  have h5:a (zu l i).fr.toNat<=zQ p l a i (zu l i).fr.toNat:=h4
  show _<=Zo p (zQ p l a i) (zu l i) (zu l i).to.toNat
  omega
 have h3:=X8 p l a (zu l i).to.toNat (i+1) l.length hi
 omega
theorem UB {n:Nat} {l:List Ed} {p:Int} (hn:∀e∈l,e.fr.toNat<n/\e.to.toNat<n) (hf:zi6 l p):∃r,xw p l (zro p l r)=true:=by
 obtain⟨h,hh⟩:=hf
 obtain⟨C,hC⟩:∃C:Int,∀v,v<n->0<=h v+C:=by
  have:∀n,∃C:Int,∀v,v<n->0<=h v+C:=by
   intro n
   induction n with
   | zero=>exact⟨0,fun v hv=>absurd hv (Nat.not_lt_zero _)⟩
   | succ n ih =>
     obtain⟨C,hC⟩:=ih
     refine⟨max C (-(h n)),fun v hv=>?_⟩
     by_cases e:v=n
     ·subst e;omega
     ·have:=hC v (by omega);omega
  exact this n
 have hH0:∀v,0<=(fun v=>if v<n then h v+C else 0) v:=fun v=>by
  show 0<=if v<n then h v+C else 0
  split
  ·rename_i hv;exact hC v hv
  ·exact Int.le_refl _
 have hH:∀e∈l,(fun v=>if v<n then h v+C else 0) e.fr.toNat+ZY p e<=(fun v=>if v<n then h v+C else 0) e.to.toNat:=fun e he=>by
  obtain⟨h1,h2⟩:=hn e he
  have h3:=hh e he
  show (if e.fr.toNat<n then h e.fr.toNat+C else 0)+ZY p e<=if e.to.toNat<n then h e.to.toNat+C else 0
  rw [if_pos h1,if_pos h2]
  omega
 have hu:=VA hH0 hH
 refine Classical.byContradiction fun hno=>?_
 have hall:∀r,xw p l (zro p l r)=false:=fun r=>by
  cases e:xw p l (zro p l r) with
  | false=>rfl
  | true=>exact absurd ⟨r,e⟩ hno
 have hsum:∀r:Nat,(r:Int)<=yH (zro p l r) n:=by
  intro r
  induction r with
  | zero =>
    have:∀n,yH (zro p l 0) n=0:=fun n=>by
     induction n with
     | zero=>rfl
     | succ n ih=>show yH (zro p l 0) n+0=0;omega
    rw [this];exact Int.le_refl _
  | succ r ih =>
    obtain⟨e,he,hlt⟩:=zfw (hall r)
    have:yH (zro p l r) n<yH (zro p l (r+1)) n:=zqy n (fun v _=>xY p l v r (r+1) (by omega)) ⟨_,(hn e he).2,hlt⟩
    omega
 have hb:∀r,yH (zro p l r) n<=yH (fun v=>if v<n then h v+C else 0) n:=fun r=>zns n fun v _=>hu r v
 have h1:=hsum ((yH (fun v=>if v<n then h v+C else 0) n).toNat+1)
 have h2:=hb ((yH (fun v=>if v<n then h v+C else 0) n).toNat+1)
 omega
theorem zdp {p:Int} {l:List Ed} {r:Nat} (h:xw p l (zro p l r)=true):∀s,r<=s->∀v,zro p l s v=zro p l r v:=by
 intro s hs v
 have h1:=xY p l v r s hs
 have h2:zro p l s v<=zro p l r v:=by
  have key:∀s,r<=s->∀v,zro p l s v<=zro p l r v:=by
   intro s
   induction s with
   | zero => intro h0 v;obtain rfl:r=0:=by omega
             exact Int.le_refl _
   | succ s ih =>
     intro h0 v
     by_cases e:r=s+1
     ·subst e;exact Int.le_refl _
     ·exact Uv (ih (by omega)) (xE.1 h) _ (Nat.le_refl _) v
  exact key s hs v
 omega
def ZI (p:Int) (l:List Ed) (m:Nat):Nat->Int:=zQ p l (zro p l (m / l.length)) (m % l.length)
theorem ZJ {p:Int} {l:List Ed} (hl:0<l.length) (r k:Nat) (hk:k<=l.length):ZI p l (r*l.length+k)=zQ p l (zro p l r) k:=by
 unfold ZI
 by_cases e:k=l.length
 ·subst e
  have h1:(r*l.length+l.length) / l.length=r+1:=by rw [<-Nat.succ_mul];exact Nat.mul_div_cancel _ hl
  have h2:(r*l.length+l.length) % l.length=0:=by rw [<-Nat.succ_mul];exact Nat.mul_mod_left _ _
  rw [h1,h2];rfl
 ·have h1:(r*l.length+k) / l.length=r:=by rw [Nat.add_comm,Nat.add_mul_div_right _ _ hl,Nat.div_eq_of_lt (by omega),Nat.zero_add]
  have h2:(r*l.length+k) % l.length=k:=by rw [Nat.add_comm,Nat.add_mul_mod_self_right];exact Nat.mod_eq_of_lt (by omega)
  rw [h1,h2]
theorem zaz {p:Int} {l:List Ed} (hl:0<l.length) (m:Nat):ZI p l (m+1)=Zo p (ZI p l m) (zu l (m % l.length)):=by
 have hm:m=(m / l.length)*l.length+m % l.length:=by
  have:=Nat.div_add_mod m l.length
  rw [Nat.mul_comm] at this;exact this.symm
 have hk:m % l.length<l.length:=Nat.mod_lt _ hl
 have e1:ZI p l (m+1)=zQ p l (zro p l (m / l.length)) (m % l.length+1):=by
  rw [<-ZJ hl (m / l.length) (m % l.length+1) (by omega)]
  congr 1
  omega
 rw [e1]
 rfl
theorem zhx {p:Int} {l:List Ed} (hl:0<l.length) (v:Nat):∀i j,i<=j->ZI p l i v<=ZI p l j v:=by
 intro i j h
 induction j with
 | zero => obtain rfl:i=0:=by omega
           exact Int.le_refl _
 | succ j ih =>
   by_cases e:i=j+1
   ·subst e;exact Int.le_refl _
   ·rw [zaz hl]
    exact Int.le_trans (ih (by omega)) (znb _ _ _ _)
def xu (x A:Nat->Int):Nat->Nat
 | 0=>0
 | n+1=>xu x A n+(if x n=A n then 0 else 1)
theorem zho (x A:Nat->Int) (n:Nat):xu x A n<=n:=by
 induction n with
 | zero=>exact Nat.le_refl _
 | succ n ih =>
   show xu x A n+(if x n=A n then 0 else 1)<=n+1
   split <;> omega
theorem X5 {x A:Nat->Int} {n:Nat} (h:xu x A n=0):∀v,v<n->x v=A v:=by
 induction n with
 | zero=>intro v hv;omega
 | succ n ih =>
   intro v hv
   have h1:xu x A n+(if x n=A n then 0 else 1)=0:=h
   by_cases e:v=n
   ·subst e
    by_cases e2:x v=A v
    ·exact e2
    ·rw [if_neg e2] at h1;omega
   ·exact ih (by omega) v (by omega)
theorem Vk {x y A:Nat->Int}:∀n,(∀v,v<n->x v=A v->y v=A v)->xu y A n<=xu x A n:=by
 intro n
 induction n with
 | zero=>exact fun _=>Nat.le_refl _
 | succ n ih =>
   intro h
   have h1:=ih fun v hv=>h v (by omega)
   show xu y A n+(if y n=A n then 0 else 1)<=xu x A n+(if x n=A n then 0 else 1)
   by_cases e:x n=A n
   ·rw [if_pos e,if_pos (h n (by omega) e)];omega
   ·rw [if_neg e]
    split <;> omega
theorem Vj {x y A:Nat->Int}:∀n,(∀v,v<n->x v=A v->y v=A v)->(∃v,v<n/\x v≠A v/\y v=A v)->xu y A n<xu x A n:=by
 intro n
 induction n with
 | zero=>rintro _ ⟨v,hv,_⟩;omega
 | succ n ih =>
   rintro h ⟨v,hv,h1,h2⟩
   show xu y A n+(if y n=A n then 0 else 1)<xu x A n+(if x n=A n then 0 else 1)
   by_cases e:v=n
   ·subst e
    rw [if_neg h1,if_pos h2]
    have:=Vk v fun u hu=>h u (by omega)
    omega
   ·have h3:=ih (fun u hu=>h u (by omega)) ⟨v,by omega,h1,h2⟩
    by_cases e2:x n=A n
    ·rw [if_pos e2,if_pos (h n (by omega) e2)];omega
    ·rw [if_neg e2]
     split <;> omega
theorem zap {x A:Nat->Int} {n:Nat} (h:xu x A n≠0):∃v,v<n/\x v≠A v:=by
 refine Classical.byContradiction fun hno=>h ?_
 have:∀v,v<n->x v=A v:=fun v hv=>Classical.byContradiction fun h2=>hno ⟨v,hv,h2⟩
 clear h hno
 induction n with
 | zero=>rfl
 | succ n ih =>
   show xu x A n+(if x n=A n then 0 else 1)=0
   rw [ih fun v hv=>this v (by omega),if_pos (this n (by omega))]
theorem zm4 {P:Nat->Prop} (h:∃m,P m):∃m,P m/\∀k,k<m->¬P k:=by
 obtain⟨m,hm⟩:=h
 induction m using Nat.strongRecOn with
 | _ m ih =>
   by_cases e:∃k,k<m/\P k
   ·obtain⟨k,hk,hp⟩:=e;exact ih k hk hp
   ·exact⟨m,hm,fun k hk hp=>e ⟨k,hk,hp⟩⟩
theorem XT {n:Nat} {l:List Ed} {p:Int} {R r:Nat} (hl:0<l.length) (hn:∀e∈l,e.fr.toNat<n/\e.to.toNat<n) (hR:xw p l (zro p l R)=true) (hr:r<=R) (ho:∃v,v<n/\zro p l r v≠zro p l R v) :
  ∃v,v<n/\zro p l r v≠zro p l R v/\zro p l (r+1) v=zro p l R v:=by
 have hA:∀m v,ZI p l m v<=zro p l R v:=fun m v=>by
  have h1:=zhx (p:=p) hl v m ((R+m)*l.length) (by
   have:m<=(R+m)*l.length:=Nat.le_trans (Nat.le_add_left m R) (Nat.le_mul_of_pos_right _ hl)
   exact this)
  have h2:=ZJ (p:=p) hl (R+m) 0 (Nat.zero_le _)
  rw [Nat.add_zero] at h2
  rw [h2] at h1
  have h3:zQ p l (zro p l (R+m)) 0 v=zro p l (R+m) v:=rfl
  rw [h3,zdp hR (R+m) (by omega) v] at h1
  exact h1
 have hx0:∀v,ZI p l (r*l.length) v=zro p l r v:=fun v=>by
  have:=ZJ (p:=p) hl r 0 (Nat.zero_le _)
  rw [Nat.add_zero] at this
  rw [this];rfl
 have hx1:∀v,ZI p l (r*l.length+l.length) v=zro p l (r+1) v:=fun v=>by rw [ZJ hl r l.length (Nat.le_refl _)];rfl
 obtain⟨m,hm,hmin⟩:=zm4 (P:=fun m=>∃v,v<n/\zro p l r v≠zro p l R v/\ZI p l (r*l.length+m+1) v=zro p l R v) (by
  obtain⟨v,hv,hne⟩:=ho
  refine⟨(R - r)*l.length,v,hv,hne,?_⟩
  have h1:=zhx (p:=p) hl v (R*l.length) (r*l.length+(R - r)*l.length+1) (by rw [<-Nat.add_mul,show r+(R - r)=R by omega];omega)
  have h2:=ZJ (p:=p) hl R 0 (Nat.zero_le _)
  rw [Nat.add_zero] at h2
  rw [h2] at h1
  have h3:zQ p l (zro p l R) 0 v=zro p l R v:=rfl
  rw [h3] at h1
  have h4:=hA (r*l.length+(R - r)*l.length+1) v
  omega)
 obtain⟨v,hv,hne,hset⟩:=hm
 have hbefore:∀u,u<n->zro p l r u≠zro p l R u->ZI p l (r*l.length+m) u≠zro p l R u:=fun u hu hne2 h2=>by
  cases m with
  | zero=>rw [Nat.add_zero,hx0] at h2;exact hne2 h2
  | succ m=>exact hmin m (by omega) ⟨u,hu,hne2,h2⟩
 have hold:=hbefore v hv hne
 rw [zaz hl] at hset
 have hnew:Zo p (ZI p l (r*l.length+m)) (zu l ((r*l.length+m) % l.length)) v≠ZI p l (r*l.length+m) v:=fun h2=>hold (by rw [<-h2];exact hset)
 obtain⟨hv2,hval⟩:=zc9 hnew
 have hin:zu l ((r*l.length+m) % l.length)∈l:=Zf (Nat.mod_lt _ hl)
 generalize zu l ((r*l.length+m) % l.length)=e at *
 rw [hset] at hval
 have hpot:=xE.1 hR e hin
 have hu1:=hA (r*l.length+m) e.fr.toNat
 rw [<-hv2] at hpot
 have hfr:ZI p l (r*l.length+m) e.fr.toNat=zro p l R e.fr.toNat:=by omega
 have hfr0:zro p l r e.fr.toNat=zro p l R e.fr.toNat:=Classical.byContradiction fun h2=>hbefore _ (hn e hin).1 h2 hfr
 refine⟨v,hv,hne,?_⟩
 obtain⟨i,hi,hei⟩:=VP hin
 have h1:zro p l R v<=zQ p l (zro p l r) (i+1) v:=by
  have h3:=znc p (zQ p l (zro p l r) i) e trivial
  have h4:=X8 p l (zro p l r) e.fr.toNat 0 i (Nat.zero_le _)
  have h5:zro p l r e.fr.toNat<=zQ p l (zro p l r) i e.fr.toNat:=h4
  show _<=Zo p (zQ p l (zro p l r) i) (zu l i) v
  rw [hei,hv2]
  rw [<-hv2] at h3 ⊢
  omega
 have h2:=X8 p l (zro p l r) v (i+1) l.length hi
 have h3:zro p l (r+1) v<=zro p l R v:=by rw [<-hx1];exact hA _ _
 have h4:zQ p l (zro p l r) l.length v=zro p l (r+1) v:=rfl
 omega
theorem Vv {n:Nat} {l:List Ed} {p:Int} (hn:∀e∈l,e.fr.toNat<n/\e.to.toNat<n) (hf:zi6 l p):yn n l p=true:=by
 by_cases hl:0<l.length
 ·obtain⟨R,hR⟩:=UB hn hf
  have hcnt:∀r,r<=R->xu (zro p l r) (zro p l R) n+r<=n\/xu (zro p l r) (zro p l R) n=0:=by
   intro r
   induction r with
   | zero=>exact fun _=>.inl (by have:=zho (zro p l 0) (zro p l R) n;omega)
   | succ r ih =>
     intro hr
     have hkeep:∀v,v<n->zro p l r v=zro p l R v->zro p l (r+1) v=zro p l R v:=fun v _ h=>by
      have h1:=xY p l v r (r+1) (by omega)
      have h2:=xY p l v (r+1) R hr
      omega
     by_cases h0:xu (zro p l r) (zro p l R) n=0
     ·have:=Vk n hkeep
      exact .inr (by omega)
     ·obtain⟨v,h1,h2,h3⟩:=XT hl hn hR (by omega) (zap h0)
      have:=Vj n hkeep ⟨v,h1,h2,h3⟩
      rcases ih (by omega) with h4 | h4
      ·exact .inl (by omega)
      ·exact absurd h4 h0
  by_cases hRn:R<=n
  ·exact yR (k:=R) (by omega) hR
  ·have h1:xu (zro p l n) (zro p l R) n=0:=by
    rcases hcnt n (by omega) with h | h
    ·omega
    ·exact h
   refine yR (k:=n) (by omega) (xE.2 fun e he=>?_)
   have h2:=xE.1 hR e he
   rw [X5 h1 _ (hn e he).1,X5 h1 _ (hn e he).2]
   exact h2
 ·have e:l=[]:=List.length_eq_zero_iff.1 (by omega)
  subst e
  exact yR (k:=0) (by omega) rfl
theorem zos {n:Nat} {l:List Ed} (hn:n<=16) (hl:∀e∈l,∃fr to bk wt:Nat,e=⟨fr,to,bk,wt⟩/\fr<n/\to<n/\(bk=0->fr<to)/\wt<=6):zi6 l 96:=by
 refine⟨fun v=>6*v,fun e he=>?_⟩
 obtain⟨fr,to,bk,wt,rfl,h1,h2,h3,h4⟩:=hl e he
 unfold ZY
 show (6:Int)*(((fr:Int).toNat:Nat):Int)+((wt:Int) - 96*(bk:Int))<=6*(((to:Int).toNat:Nat):Int)
 rw [Int.toNat_natCast,Int.toNat_natCast]
 by_cases e:bk=0
 ·have:=h3 e;omega
 ·omega
def Y5 (n:Nat) (l:List Ed) (p:Int):Bool:=exN (fun r=>xw p l (zro p l r)) n
theorem zmq {n:Nat} {l:List Ed} {p:Int} {R:Nat} (hn1:1<=n) (hn:∀e∈l,e.fr.toNat<n/\e.to.toNat<n) (hR:xw p l (zro p l R)=true):∃v,v<n/\zro p l R v=0:=by
 refine Classical.byContradiction fun hno=>?_
 have hpos:∀v,v<n->1<=zro p l R v:=fun v hv=>by
  have h0:(0:Int)<=zro p l R v:=xY p l v 0 R (Nat.zero_le _)
  have h1:zro p l R v≠0:=fun h=>hno ⟨v,hv,h⟩
  omega
 have h2:=VA (p:=p) (l:=l) (H:=fun v=>if v<n then zro p l R v - 1 else zro p l R v) (fun v=>by
  show (0:Int)<=if v<n then zro p l R v - 1 else zro p l R v
  split
  ·have:=hpos v (by assumption);omega
  ·exact xY p l v 0 R (Nat.zero_le _)) (fun e he=>by
  obtain⟨h1,h2⟩:=hn e he
  show (if _<n then _ else _)+ZY p e<=(if _<n then _ else _)
  rw [if_pos h1,if_pos h2]
  have:=xE.1 hR e he
  omega) R 0
 rw [if_pos (by omega)] at h2
 omega
theorem zbt {n:Nat} {l:List Ed} {p:Int} (hn1:1<=n) (hn:∀e∈l,e.fr.toNat<n/\e.to.toNat<n) (hf:zi6 l p):Y5 n l p=true:=by
 by_cases hl:0<l.length
 ·obtain⟨R,hR⟩:=UB hn hf
  have hcnt:∀r,r<=R->xu (zro p l r) (zro p l R) n+r+1<=n\/xu (zro p l r) (zro p l R) n=0:=by
   intro r
   induction r with
   | zero =>
     intro _
     obtain⟨v,hv,hz⟩:=zmq hn1 hn hR
     have h1:xu (zro p l 0) (zro p l R) n<xu (fun v=>zro p l R v+1) (zro p l R) n:=Vj n (fun v _ h=>by exfalso;have h2:zro p l R v+1=zro p l R v:=h;omega) ⟨v,hv,by show ¬zro p l R v+1=zro p l R v;omega,by rw [hz];rfl⟩
     have:=zho (fun v=>zro p l R v+1) (zro p l R) n
     exact .inl (by omega)
   | succ r ih =>
     intro hr
     have hkeep:∀v,v<n->zro p l r v=zro p l R v->zro p l (r+1) v=zro p l R v:=fun v _ h=>by
      have h1:=xY p l v r (r+1) (by omega)
      have h2:=xY p l v (r+1) R hr
      omega
     by_cases h0:xu (zro p l r) (zro p l R) n=0
     ·have:=Vk n hkeep
      exact .inr (by omega)
     ·obtain⟨v,h1,h2,h3⟩:=XT hl hn hR (by omega) (zap h0)
      have:=Vj n hkeep ⟨v,h1,h2,h3⟩
      rcases ih (by omega) with h4 | h4
      ·exact .inl (by omega)
      ·exact absurd h4 h0
  by_cases hRn:R<=n - 1
  ·exact yR (k:=R) (by omega) hR
  ·have h1:xu (zro p l (n - 1)) (zro p l R) n=0:=by
    rcases hcnt (n - 1) (by omega) with h | h
    ·omega
    ·exact h
   refine yR (k:=n - 1) (by omega) (xE.2 fun e he=>?_)
   have h2:=xE.1 hR e he
   rw [X5 h1 _ (hn e he).1,X5 h1 _ (hn e he).2]
   exact h2
 ·have e:l=[]:=List.length_eq_zero_iff.1 (by omega)
  subst e
  exact yR (k:=0) (by omega) rfl
theorem Uz {n:Nat} {l:List Ed} {p:Int} (hn1:1<=n) (hn:∀e∈l,e.fr.toNat<n/\e.to.toNat<n):Y5 n l p=yn n l p:=by
 cases h:yn n l p with
 | true=>exact zbt hn1 hn (ze2 h)
 | false =>
   cases h2:Y5 n l p with
   | false=>rfl
   | true =>
     obtain⟨r,h3,h4⟩:=Yf.1 h2
     have:yn n l p=true:=yR (k:=r) (by omega) h4
     rw [h] at this;cases this
def xO (L:Lp) (c:Nat):Nat:=cnt (fun i=>decide (zC (z6 L.body i).o=(c:Int))) L.body.length
def xy (n u:Nat):Nat:=(n+u - 1) / u
theorem YG {n u q:Nat} (hu:1<=u):n<=q*u↔xy n u<=q:=by
 unfold xy
 constructor
 ·intro h
  have h1:n+u - 1<(q+1)*u:=by rw [Nat.succ_mul];omega
  exact Nat.le_of_lt_succ (Nat.div_lt_of_lt_mul (by rw [Nat.mul_comm];exact h1))
 ·intro h
  have h1:=Nat.div_add_mod (n+u - 1) u
  have h2:=Nat.mod_lt (n+u - 1) (show u > 0 by omega)
  have h3:u*((n+u - 1) / u)<=u*q:=Nat.mul_le_mul_left _ h
  rw [Nat.mul_comm q u]
  omega
def Z0 (L:Lp) (t:Tg):Nat->Nat
 | 0=>1
 | c+1=>max (Z0 L t c) (xy (xO L c) (zF t c).toNat)
def xP (L:Lp) (t:Tg):Nat:=Z0 L t 3
def ZA (p:Nat->Bool):Nat->Nat->Nat
 | 0,s=>s
 | f+1,s=>if p s=true then s else ZA p f (s+1)
theorem Ud {p:Nat->Bool}:∀f s,(∃q,s<=q/\q<=s+f/\p q=true)->p (ZA p f s)=true/\s<=ZA p f s/\ZA p f s<=s+f/\∀q,s<=q->q<ZA p f s->p q=false:=by
 intro f
 induction f with
 | zero =>
   rintro s ⟨q,h1,h2,h3⟩
   obtain rfl:q=s:=by omega
   exact⟨h3,Nat.le_refl _,Nat.le_refl _,fun q' h4 h5=>absurd h5 (by show ¬q'<q;omega)⟩
 | succ f ih =>
   rintro s ⟨q,h1,h2,h3⟩
   unfold ZA
   by_cases h:p s=true
   ·rw [if_pos h];exact⟨h,Nat.le_refl _,by omega,fun q' h4 h5=>by omega⟩
   ·rw [if_neg h]
    have hq:q≠s:=fun e=>h (e ▸ h3)
    obtain⟨h4,h5,h6,h7⟩:=ih (s+1) ⟨q,by omega,by omega,h3⟩
    refine⟨h4,by omega,by omega,fun q' h8 h9=>?_⟩
    by_cases e:q'=s
    ·subst e;simpa using h
    ·exact h7 q' (by omega) h9
def xi (L:Lp) (t:Tg):Nat:=ZA (fun p=>yn L.body.length (z8 L t) p) 95 1
theorem xq {L:Lp} {t:Tg} (hm:zx L=true):∀e∈z8 L t,∃fr to bk wt:Nat,e=⟨fr,to,bk,wt⟩/\fr<L.body.length/\to<L.body.length/\(bk=0->fr<to)/\wt<=6/\bk<=32:=by
 intro e he
 obtain⟨fr,to,b,x,h1,h2,rfl,h3⟩:=XI _ he
 obtain⟨fr',to',bk',wt',h5,-,-,h8⟩:=zio hm he
 have e1:(b:Int)=bk':=congrArg Ed.bk h5
 have e2:(fr:Int)=fr':=congrArg Ed.fr h5
 have e3:(to:Int)=to':=congrArg Ed.to h5
 refine⟨fr,to,b,x,rfl,h1,h2,fun h=>by have:=h8 (by omega);omega,?_⟩
 have hb:∀k,(⟨fr,to,b,x⟩:Ed)∈frD L t k->x<=6/\b<=32:=by
  have w1:∀{fr to bk:Nat} {e:Ed} k,e∈wtD L t fr to bk k->∃y:Nat,y<k/\e=⟨fr,to,bk,y⟩:=fun k h=>by
   obtain⟨y,h1,h2,_⟩:=VY k h;exact⟨y,h1,h2⟩
  have w2:∀{fr to:Nat} {e:Ed} k,e∈bkD L t fr to k->∃b y:Nat,b<k/\y<7/\e=⟨fr,to,b,y⟩:=by
   intro fr to e k
   induction k with
   | zero=>intro h;cases h
   | succ k ih =>
     intro h
     rcases List.mem_append.1 h with h | h
     ·obtain⟨b,y,h1,h2,h3⟩:=ih h;exact⟨b,y,by omega,h2,h3⟩
     ·obtain⟨y,h1,h2⟩:=w1 7 h;exact⟨k,y,by omega,h1,h2⟩
  have w3:∀{fr:Nat} {e:Ed} k,e∈toD L t fr k->∃to b y:Nat,b<33/\y<7/\e=⟨fr,to,b,y⟩:=by
   intro fr e k
   induction k with
   | zero=>intro h;cases h
   | succ k ih =>
     intro h
     rcases List.mem_append.1 h with h | h
     ·exact ih h
     ·obtain⟨b,y,h1,h2,h3⟩:=w2 33 h;exact⟨k,b,y,h1,h2,h3⟩
  intro k
  induction k with
  | zero=>intro h;cases h
  | succ k ih =>
    intro h
    rcases List.mem_append.1 h with h | h
    ·exact ih h
    ·obtain⟨to2,b2,y2,h1,h2,h3⟩:=w3 L.body.length h
     have f1:(b:Int)=b2:=congrArg Ed.bk h3
     have f2:(x:Int)=y2:=congrArg Ed.wt h3
     omega
 exact hb _ he
theorem YN {L:Lp} {t:Tg} (hm:zx L=true):∃q,1<=q/\q<=1+95/\(fun p:Nat=>yn L.body.length (z8 L t) p) q=true:=by
 obtain⟨-,-,h16,-⟩:=zj hm
 have hok:=xq (t:=t) hm
 refine⟨96,by omega,by omega,?_⟩
 exact Vv (fun e he=>by
  obtain⟨fr,to,bk,wt,rfl,h1,h2,_⟩:=hok e he
  exact⟨by show ((fr:Int)).toNat<_;rw [Int.toNat_natCast];exact h1,by show ((to:Int)).toNat<_;rw [Int.toNat_natCast];exact h2⟩) (zos h16 fun e he=>by
   obtain⟨fr,to,bk,wt,h0,h1,h2,h3,h4,-⟩:=hok e he
   exact⟨fr,to,bk,wt,h0,h1,h2,h3,h4⟩)
def XO (L:Lp) (P:Int) (T:List Int) (i j:Nat):Bool:=decide ((nth T j).tmod P=(nth T i).tmod P) && decide (zC (z6 L.body j).o=zC (z6 L.body i).o)
def Yr (L:Lp) (P:Int) (T:List Int) (i:Nat):Nat:=cnt (XO L P T i) T.length
def Y6 (L:Lp) (t:Tg) (P:Int) (T:List Int) (i:Nat):Bool:=inR (nth T i) 0 1000 && decide ((Yr L P T i:Int)<=zF t (zC (z6 L.body i).o))
def Yz (P:Int) (T:List Int) (e:Ed):Bool:=decide (nth T e.fr.toNat+e.wt<=nth T e.to.toNat+e.bk*P)
def zD (L:Lp) (t:Tg) (P:Int) (T:List Int):Bool :=
 zx L && zp t && inR P 1 200 && decide (T.length=L.body.length) && zh (Y6 L t P T) T.length && zh (fun i=>Yz P T (zu (z8 L t) i)) (z8 L t).length
theorem zL {L:Lp} {t:Tg} {P:Int} {T:List Int} (h:zD L t P T=true):zx L=true/\zp t=true/\1<=P/\P<=200/\T.length=L.body.length/\zh (Y6 L t P T) T.length=true/\zh (fun i=>Yz P T (zu (z8 L t) i)) (z8 L t).length=true:=by
 unfold zD at h
 simp only [Bool.and_eq_true,decide_eq_true_eq] at h
 obtain⟨⟨⟨⟨⟨h1,h2⟩,h3⟩,h4⟩,h5⟩,h6⟩:=h
 have h3:=zo.1 h3
 exact⟨h1,h2,h3.1,h3.2,h4,h5,h6⟩
theorem zc0 {L:Lp} {t:Tg} {P:Nat} {T:List Int} (h:zD L t P T=true):xi L t<=P:=by
 obtain⟨hm,-,hp1,hp2,-,-,hE⟩:=zL h
 have hok:=xq (t:=t) hm
 have hfe:zi6 (z8 L t) P:=⟨fun v=>nth T v,fun e he=>by
  obtain⟨i,hi,rfl⟩:=VP he
  have h1:=of_decide_eq_true (zl hE i hi)
  unfold ZY
  have h2:(zu (z8 L t) i).bk*(P:Int)=(P:Int)*(zu (z8 L t) i).bk:=Int.mul_comm _ _
  rw [h2] at h1
  show nth T (zu (z8 L t) i).fr.toNat+((zu (z8 L t) i).wt - (P:Int)*(zu (z8 L t) i).bk)<=nth T (zu (z8 L t) i).to.toNat
  omega⟩
 have hr:yn L.body.length (z8 L t) P=true:=Vv (fun e he=>by
  obtain⟨fr,to,bk,wt,rfl,h1,h2,_⟩:=hok e he
  exact⟨by show ((fr:Int)).toNat<_;rw [Int.toNat_natCast];exact h1,by show ((to:Int)).toNat<_;rw [Int.toNat_natCast];exact h2⟩) hfe
 obtain⟨h1,h2,h3,h4⟩:=Ud 95 1 (YN (t:=t) hm)
 refine Classical.byContradiction fun hlt=>?_
 have h5:=h4 P (by omega) (by show P<xi L t;omega)
 rw [hr] at h5
 cases h5
theorem zig (p:Nat->Bool) (k:Nat->Nat) (m:Nat):∀n,(∀i,i<n->p i=true->k i<m)->cnt p n=(List.range m).foldl (fun s c=>s+cnt (fun i=>p i && decide (k i=c)) n) 0:=by
 have hz:∀(f:Nat->Nat) (m a:Nat),(List.range m).foldl (fun s c=>s+f c) a=a+(List.range m).foldl (fun s c=>s+f c) 0:=by
  intro f m
  induction m with
  | zero=>intro a;simp
  | succ m ih =>
    intro a
    rw [List.range_succ,List.foldl_append,List.foldl_append,ih a]
    simp
    omega
 have hadd:∀(f g:Nat->Nat) (m:Nat),(List.range m).foldl (fun s c=>s+(f c+g c)) 0=(List.range m).foldl (fun s c=>s+f c) 0+(List.range m).foldl (fun s c=>s+g c) 0:=by
  intro f g m
  induction m with
  | zero=>rfl
  | succ m ih =>
    rw [List.range_succ,List.foldl_append,List.foldl_append,List.foldl_append,ih]
    simp
    omega
 have hone:∀(q m:Nat),q<m->(List.range m).foldl (fun s c=>s+(if q=c then 1 else 0)) 0=1:=by
  intro q m
  induction m with
  | zero=>intro h;omega
  | succ m ih =>
    intro h
    rw [List.range_succ,List.foldl_append]
    by_cases e:q=m
    ·subst e
     have h0:∀m,m<=q->(List.range m).foldl (fun s c=>s+(if q=c then 1 else 0)) 0=0:=by
      intro m
      induction m with
      | zero=>intro _;rfl
      | succ m ih=>intro hm;rw [List.range_succ,List.foldl_append,ih (by omega)];simp;omega
     rw [h0 q (Nat.le_refl _)];simp
    ·rw [ih (by omega)];simp [e]
 have hzero:∀m,(List.range m).foldl (fun s c=>s+0) 0=0:=by
  intro m
  induction m with
  | zero=>rfl
  | succ m ih=>rw [List.range_succ,List.foldl_append,ih];rfl
 intro n
 induction n with
 | zero=>intro _;exact (hzero m).symm
 | succ n ih =>
   intro h
   have h1:=ih fun i hi=>h i (by omega)
   have h2:(fun (s c:Nat)=>s+cnt (fun i=>p i && decide (k i=c)) (n+1))=fun s c=>s+(cnt (fun i=>p i && decide (k i=c)) n+(if (p n && decide (k n=c))=true then 1 else 0)):=rfl
   rw [h2,hadd,<-h1]
   show cnt p n+(if p n=true then 1 else 0)=_
   cases hp:p n with
   | false =>
     have h3:(fun (s c:Nat)=>s+(if (false && decide (k n=c))=true then 1 else 0))=fun s c=>s+0:=by funext s c;simp
     rw [h3,hzero];rfl
   | true =>
     have h3:(fun (s c:Nat)=>s+(if (true && decide (k n=c))=true then 1 else 0))=fun s c=>s+(if k n=c then 1 else 0):=by funext s c;simp
     rw [h3,hone _ _ (h n (by omega) hp)];rfl
theorem zls (f:Nat->Nat) (u:Nat):∀m,(∀c,c<m->f c<=u)->(List.range m).foldl (fun s c=>s+f c) 0<=m*u:=by
 intro m
 induction m with
 | zero=>intro _;simp
 | succ m ih =>
   intro h
   rw [List.range_succ,List.foldl_append]
   have h1:=ih fun c hc=>h c (by omega)
   have h2:=h m (by omega)
   simp only [List.foldl_cons,List.foldl_nil]
   rw [Nat.succ_mul]
   omega
theorem xQ (p:Nat->Bool) (n:Nat):cnt p n=0\/∃i,i<n/\p i=true:=by
 induction n with
 | zero=>exact .inl rfl
 | succ n ih =>
   cases hp:p n with
   | true=>exact .inr ⟨n,by omega,hp⟩
   | false =>
     rcases ih with h | ⟨i,h1,h2⟩
     ·exact .inl (by show cnt p n+(if p n=true then 1 else 0)=0;rw [hp,h];rfl)
     ·exact .inr ⟨i,by omega,h2⟩
theorem zbn {p q:Nat->Bool} {n:Nat} (h:∀i,i<n->p i=true->q i=true):cnt p n<=cnt q n:=by
 induction n with
 | zero=>exact Nat.le_refl _
 | succ n ih =>
   have h1:=ih fun i hi=>h i (by omega)
   show cnt p n+(if p n=true then 1 else 0)<=cnt q n+(if q n=true then 1 else 0)
   cases hp:p n with
   | false=>simp;omega
   | true=>rw [h n (by omega) hp];omega
theorem zdc {L:Lp} {t:Tg} {P:Nat} {T:List Int} (h:zD L t P T=true):xP L t<=P:=by
 obtain⟨hm,hmt,hp1,hp2,hlen,hT,-⟩:=zL h
 have hP:1<=P:=by omega
 have hT':∀i,i<T.length->0<=nth T i/\((Yr L P T i:Int)<=zF t (zC (z6 L.body i).o)):=fun i hi=>by
  have h1:=zl hT i hi
  unfold Y6 at h1
  simp only [Bool.and_eq_true,decide_eq_true_eq] at h1
  exact⟨(zo.1 h1.1).1,h1.2⟩
 have hu:∀c:Nat,1<=zF t c:=fun c=>by
  obtain⟨h1,h2,h3,-,-⟩:=yi hmt
  have h1:=zT h1
  have h2:=zT h2
  have h3:=zT h3
  unfold zF
  split
  ·omega
  ·split <;> omega
 have hcls:∀c:Nat,c<3->xy (xO L c) (zF t c).toNat<=P:=fun c hc=>by
  refine (YG (by have:=hu c;omega)).1 ?_
  have h1:=zig (fun i=>decide (zC (z6 L.body i).o=(c:Int))) (fun i=>((nth T i) % (P:Int)).toNat) P L.body.length (fun i hi _=>by
   have:=Int.emod_lt_of_pos (nth T i) (show (0:Int)<P by omega)
   have:=Int.emod_nonneg (nth T i) (show (P:Int)≠0 by omega)
   show ((nth T i) % (P:Int)).toNat<P
   omega)
  unfold xO
  rw [h1]
  refine zls _ _ P fun s hs=>?_
  rcases xQ (fun i=>decide (zC (z6 L.body i).o=(c:Int)) && decide (((nth T i) % (P:Int)).toNat=s)) L.body.length with h0 | ⟨i,hi,hpi⟩
  ·rw [h0];exact Nat.zero_le _
  ·simp only [Bool.and_eq_true,decide_eq_true_eq] at hpi
   obtain⟨hc1,hs1⟩:=hpi
   have h2:=(hT' i (by omega)).2
   rw [hc1] at h2
   have h3:cnt (fun j=>decide (zC (z6 L.body j).o=(c:Int)) && decide (((nth T j) % (P:Int)).toNat=s)) L.body.length<=Yr L P T i:=by
    unfold Yr
    rw [hlen]
    refine zbn fun j hj hpj=>?_
    simp only [Bool.and_eq_true,decide_eq_true_eq] at hpj
    unfold XO
    have e1:=(hT' i (by omega)).1
    have e2:=(hT' j (by omega)).1
    have e3:=Int.emod_nonneg (nth T i) (show (P:Int)≠0 by omega)
    have e4:=Int.emod_nonneg (nth T j) (show (P:Int)≠0 by omega)
    rw [Int.tmod_eq_emod_of_nonneg e1,Int.tmod_eq_emod_of_nonneg e2,decide_eq_true (by omega),decide_eq_true (by rw [hc1];exact hpj.1)]
    rfl
   have:=hu c
   omega
 have h0:=hcls 0 (by omega)
 have h1:=hcls 1 (by omega)
 have h2:=hcls 2 (by omega)
 show max (max (max 1 (xy (xO L 0) (zF t (0:Nat)).toNat)) (xy (xO L 1) (zF t (1:Nat)).toNat)) (xy (xO L 2) (zF t (2:Nat)).toNat)<=P
 omega
theorem zkq (L:Lp) (t:Tg):1<=xP L t:=by
 show 1<=max (max (max 1 _) _) _
 omega
end Go.Proofs.YtjoapiafpahihabGreat
