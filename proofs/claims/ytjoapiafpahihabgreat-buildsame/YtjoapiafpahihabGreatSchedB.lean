import Derived.Test.YtjoapiafpahihabGreatBase
import Derived.Below
import Derived.WalkKit
import Derived.Lib.SmallJoins
import Derived.Test.YtjoapiafpahihabGreatSchedA
import Derived.BigQuiet
import Derived.Test.YtjoapiafpahihabGreatRef67
namespace Go.Proofs.YtjoapiafpahihabGreat
open Go.RowKit Go.Joins
set_option linter.unusedVariables false
variable {P:Program} {ops:Array Oper} {Q:Exit->Act->World->Prop} {md:Region.Mode} {S:World->Prop} {z:Nat}
def Zx (ops:Array Oper) (i:Nat):Option Tmp:=match ops[i]? with | some o=>o.dst | none=>none
def Zk (a:Act):List (Option Tmp × Value)->Act
 | []=>a
 | p :: l=>Zk (a.put p.1 p.2) l
theorem zjv (l:List (Option Tmp × Value)):∀(a:Act) (p:Option Tmp × Value),Zk a (l++[p])=(Zk a l).put p.1 p.2:=by
 induction l with
 | nil=>intro a p;rfl
 | cons q l ih=>intro a p;exact ih _ p
theorem zdt (l:List (Option Tmp × Value)) (d:Option Tmp) (v:Value):∀(a:Act),(∀p∈l,∀x,d=some x->p.1≠some x)->Zk (a.put d v) l=(Zk a l).put d v:=by
 induction l with
 | nil=>intro a _;rfl
 | cons q l ih =>
   intro a h
   show Zk ((a.put d v).put q.1 q.2) l=_
   rw [Act.put_comm a v q.2 (h q (List.mem_cons_self ..))]
   exact ih _ fun p hp=>h p (List.mem_cons_of_mem _ hp)
theorem zjt (o:Oper) (hs:∀cs b,o.op≠.select cs b) (l:List (Option Tmp × Value)):∀(a:Act),(∀p∈l,∀d,p.1=some d->d ∉ o.looksAt ops)->execOp (Zk a l).eval o=execOp a.eval o:=by
 induction l with
 | nil=>intro a _;rfl
 | cons q l ih =>
   intro a h
   show execOp (Zk (a.put q.1 q.2) l).eval o=_
   rw [ih _ fun p hp=>h p (List.mem_cons_of_mem _ hp),execOp_put (ops:=ops) o hs a q.1 q.2 (h q (List.mem_cons_self ..))]
theorem zdu (o:Oper) (l:List (Option Tmp × Value)):∀(a:Act),(∀p∈l,∀d,p.1=some d->d ∉ o.looksAt ops)->Region.wanted o (yielded ops (Zk a l).tmps)=Region.wanted o (yielded ops a.tmps):=by
 induction l with
 | nil=>intro a _;rfl
 | cons q l ih =>
   intro a h
   show Region.wanted o (yielded ops (Zk (a.put q.1 q.2) l).tmps)=_
   rw [ih _ fun p hp=>h p (List.mem_cons_of_mem _ hp),wanted_put o a q.1 q.2 (h q (List.mem_cons_self ..))]
theorem zju {l l':List (Option Tmp × Value)} (h:l.Perm l'):l.Pairwise (fun p q=>∀x,p.1=some x->q.1≠some x)->∀a:Act,Zk a l=Zk a l':=by
 induction h with
 | nil=>intro _ a;rfl
 | cons p _ ih=>intro hd a;exact ih (List.pairwise_cons.1 hd).2 _
 | swap p q l =>
   intro hd a
   show Zk ((a.put q.1 q.2).put p.1 p.2) l=Zk ((a.put p.1 p.2).put q.1 q.2) l
   rw [Act.put_comm a q.2 p.2 ((List.pairwise_cons.1 hd).1 p (List.mem_cons_self ..))]
 | trans h1 h2 ih1 ih2 =>
   intro hd a
   rw [ih1 hd a]
   refine ih2 (h1.pairwise hd fun {p q} hpq x hx hq=>hpq x hq hx) a
theorem zpx (o:Oper) (hs:∀cs b,o.op≠.select cs b) (l:List (Option Tmp × Value)) (hl:∀p∈l,∀d,p.1=some d->d ∉ o.looksAt ops) (hd:∀p∈l,∀x,o.dst=some x->p.1≠some x) (hQ:∀c a w,¬Q (.panic c) a w) {K:Act->World->Prop} {a:Act} {w:World}
  (h:Oper.wp P o a w (fun a' w'=>∃v,a'=a.put o.dst v/\K ((Zk a l).put o.dst v) w') Q):Oper.wp P o (Zk a l) w K Q:=by
 unfold Oper.wp at *
 rw [zjt (ops:=ops) o hs l a hl]
 generalize (execOp a.eval o).run P w=r at *
 have key:∀(u:Value) (w':World),(∃v,a.put o.dst u=a.put o.dst v/\K ((Zk a l).put o.dst v) w')->K ((Zk a l).put o.dst u) w':=fun u w' ⟨v,hv,hk⟩=>by
  have e:(Zk a l).put o.dst u=(Zk a l).put o.dst v:=by
   rw [<-zdt l o.dst u a hd,<-zdt l o.dst v a hd,hv]
  rw [e];exact hk
 cases r with
 | ok n w' =>
   cases n <;> simp only [Oper.upon] at h ⊢
   case value u=>exact key u w' h
   case skip=>exact key _ w' h
   case defer d =>
    obtain⟨v,hv,hk⟩:=h
    exfalso
    have h1:=congrArg Act.defers hv
    cases hdst:o.dst <;> (rw [hdst] at h1;simp [Act.put] at h1)
   case enter f args =>
    refine Calls.mono h fun e w'' he=>?_
    cases e with
    | returned u=>exact key u w'' he
    | panicked c=>exact absurd he (hQ _ _ _)
    | outgrown=>exact he
   case row row args=>exact Rows.mono h fun u w'' he=>key u w'' he
 | halt x w' =>
   cases x <;> simp only [Oper.upon] at h ⊢
   case panic u=>exact absurd h (hQ _ _ _)
def XV (md:Region.Mode) (ops:Array Oper) (fin:Array Bool):Nat->Array Bool->List Nat->Bool
 | 0,listed,rem=>rem.isEmpty && listed == fin
 | n+1,listed,rem=>(Region.ready md ops listed == rem) && rem.all fun i=>XV md ops fin n (listed.setIfInBounds i true) (rem.erase i)
def zh4 (P:Program) (ops:Array Oper) (Q:Exit->Act->World->Prop) (S:World->Prop) (R:Nat->Value->World->Prop) (Ap:Value->Value->Prop) (M:List Nat) (a:Act) (i:Nat):Prop :=
 ∃ o,ops[i]?=some o/\(∀cs b,o.op≠.select cs b)/\Region.wanted o (yielded ops a.tmps)=true/\(∀j∈M,j≠i->∀d,Zx ops j=some d->d ∉ o.looksAt ops/\o.dst≠some d) /\
   ∀w,S w->∀K:Act->World->Prop,(∀v w',S w'->Below w.heap.size w w'->R i v w'->(∀j∈M,∀u,R j u w->Ap u v)->K (a.put o.dst v) w')->Oper.wp P o a w K Q
theorem zer (R:Nat->Value->World->Prop) (Ap:Value->Value->Prop) (hsym:∀u v,Ap u v->Ap v u) (M:List Nat) (fin:Array Bool) {fuel:Nat} {a:Act} (hQ:∀c a w,¬Q (.panic c) a w) (hnd:M.Nodup)
  (hstay:∀i∈M,∀v w w',R i v w->Below w.heap.size w w'->R i v w') (hmk:∀i∈M,zh4 P ops Q S R Ap M a i)
  (hfin:∀(val:Nat->Value) (w:World),S w->(∀i∈M,R i (val i) w)->(∀i∈M,∀j∈M,i≠j->Ap (val i) (val j))->Yb P md ops Q S z fuel fin (Zk a (M.map fun i=>(Zx ops i,val i))) w) :
  ∀ (n:Nat) (rem dl:List Nat) (val:Nat->Value) (listed:Array Bool) (w:World),rem.length=n->(dl++rem).Perm M->XV md ops fin n listed rem=true->S w->(∀i∈dl,R i (val i) w)->(∀i∈dl,∀j∈dl,i≠j->Ap (val i) (val j)) ->
    Yb P md ops Q S z (fuel+n) listed (Zk a (dl.map fun i=>(Zx ops i,val i))) w:=by
 intro n
 induction n with
 | zero =>
   intro rem dl val listed w hl hp hr hS hR hA
   obtain rfl:rem=[]:=List.length_eq_zero_iff.1 hl
   rw [List.append_nil] at hp
   unfold XV at hr
   have e:listed=fin:=by simpa using hr
   subst e
   have hdl:dl.Nodup:=hp.nodup_iff.2 hnd
   have hpw:(dl.map fun i=>(Zx ops i,val i)).Pairwise (fun p q=>∀x,p.1=some x->q.1≠some x):=by
    rw [List.pairwise_map]
    refine List.Pairwise.imp_of_mem ?_ hdl
    intro i j hi hj hij x hx hy
    obtain⟨o,ho,_,_,hap,_⟩:=hmk j (hp.mem_iff.1 hj)
    have h1:=(hap i (hp.mem_iff.1 hi) hij x hx).2
    have h2:Zx ops j=o.dst:=by unfold Zx;rw [ho]
    exact h1 (h2 ▸ hy)
   rw [zju (hp.map _) hpw]
   exact hfin val w hS (fun i hi=>hR i (hp.mem_iff.2 hi)) (fun i hi j hj=>hA i (hp.mem_iff.2 hi) j (hp.mem_iff.2 hj))
 | succ n ih =>
   intro rem dl val listed w hl hp hr hS hR hA
   unfold XV at hr
   rw [Bool.and_eq_true] at hr
   have hready:Region.ready md ops listed=rem:=by simpa using hr.1
   refine⟨fun h0=>?_,fun i hi=>?_⟩
   ·rw [hready] at h0;rw [h0] at hl;cases hl
   ·rw [hready] at hi
    have hrec:=List.all_eq_true.1 hr.2 i hi
    have hiM:i∈M:=hp.mem_iff.1 (List.mem_append_right _ hi)
    obtain⟨o,ho,hsel,hw,hap,hdo⟩:=hmk i hiM
    have hnd2:(dl++rem).Nodup:=hp.nodup_iff.2 hnd
    have hidl:∀j∈dl,j≠i:=fun j hj e=>by
     subst e
     exact (List.nodup_append.1 hnd2).2.2 j hj j hi rfl
    have hdo':Zx ops i=o.dst:=by unfold Zx;rw [ho]
    have hlk:∀p∈dl.map (fun j=>(Zx ops j,val j)),∀d,p.1=some d->d ∉ o.looksAt ops:=fun p hp' d hd=>by
     obtain⟨j,hj,rfl⟩:=List.mem_map.1 hp'
     exact (hap j (hp.mem_iff.1 (List.mem_append_left _ hj)) (hidl j hj) d hd).1
    have hds:∀p∈dl.map (fun j=>(Zx ops j,val j)),∀x,o.dst=some x->p.1≠some x:=fun p hp' x hx hpx=>by
     obtain⟨j,hj,rfl⟩:=List.mem_map.1 hp'
     exact (hap j (hp.mem_iff.1 (List.mem_append_left _ hj)) (hidl j hj) x hpx).2 hx
    unfold wpOp
    simp only [ho]
    rw [zdu o _ a hlk,hw,if_pos rfl]
    refine .inl (zpx (ops:=ops) o hsel _ hlk hds hQ (hdo w hS _ fun v w' hS' hb hv hnew=>⟨v,rfl,.inr hS',?_⟩))
    have hset:∀j∈dl,(fun j=>if j=i then v else val j) j=val j:=fun j hj=>by
     dsimp only;rw [if_neg (hidl j hj)]
    have hact:(Zk a (dl.map fun j=>(Zx ops j,val j))).put o.dst v=Zk a ((dl++[i]).map fun j=>(Zx ops j,(fun j=>if j=i then v else val j) j)):=by
     rw [List.map_append]
     show _=Zk a (_++[(Zx ops i,if i=i then v else val i)])
     rw [zjv,if_pos rfl,hdo']
     congr 2
     exact List.map_congr_left fun j hj=>by rw [hset j hj]
    rw [hact]
    refine ih (rem.erase i) (dl++[i]) _ _ w' (by rw [List.length_erase_of_mem hi,hl];rfl) ?_ hrec hS' (fun j hj=>?_) (fun j hj k hk hjk=>?_)
    ·refine List.Perm.trans ?_ hp
     rw [List.append_assoc]
     exact List.Perm.append_left _ (List.perm_cons_erase hi).symm
    ·rcases List.mem_append.1 hj with hj | hj
     ·rw [if_neg (hidl j hj)]
      exact hstay j (hp.mem_iff.1 (List.mem_append_left _ hj)) _ w w' (hR j hj) hb
     ·obtain rfl:j=i:=by simpa using hj
      rw [if_pos rfl]
      exact hv
    ·have hmj:∀j∈dl,Ap (val j) v:=fun j hj=>hnew j (hp.mem_iff.1 (List.mem_append_left _ hj)) _ (hR j hj)
     rcases List.mem_append.1 hj with hj2 | hj2
     ·rw [if_neg (hidl j hj2)]
      rcases List.mem_append.1 hk with hk2 | hk2
      ·rw [if_neg (hidl k hk2)]
       exact hA j hj2 k hk2 hjk
      ·obtain rfl:k=i:=by simpa using hk2
       rw [if_pos rfl]
       exact hmj j hj2
     ·obtain rfl:j=i:=by simpa using hj2
      rw [if_pos rfl]
      rcases List.mem_append.1 hk with hk2 | hk2
      ·rw [if_neg (hidl k hk2)]
       exact hsym _ _ (hmj k hk2)
      ·obtain rfl:k=j:=by simpa using hk2
       exact absurd rfl hjk
def zf1 (ops:Array Oper) (M:List Nat) (i:Nat):Bool:=match ops[i]? with
 | some o=>M.all fun j=>j == i || (match Zx ops j with | some d=>!(o.looksAt ops).contains d && !(o.dst == some d) | none=>true)
 | none=>false
theorem zct {M:List Nat} {i:Nat} {o:Oper} (h:zf1 ops M i=true) (ho:ops[i]?=some o):∀j∈M,j≠i->∀d,Zx ops j=some d->d ∉ o.looksAt ops/\o.dst≠some d:=by
 intro j hj hne d hd
 unfold zf1 at h
 rw [ho] at h
 have h1:=List.all_eq_true.1 h j hj
 rw [hd] at h1
 simp only [Bool.or_eq_true,beq_iff_eq,hne,false_or,Bool.and_eq_true,Bool.not_eq_true'] at h1
 refine⟨fun hm=>?_,fun he=>?_⟩
 ·have:=List.contains_iff_mem.2 hm
  rw [h1.1] at this;cases this
 ·have h2:=h1.2
  rw [he] at h2
  simp at h2
theorem XM {R:Nat->Value->World->Prop} {Ap:Value->Value->Prop} {M:List Nat} {a:Act} {i:Nat} {o:Oper} {rest:List Oper} (hd:ops.toList.drop i=o :: rest) (hs:Region.noSelect ops=true) (hw:Region.wanted o (yielded ops a.tmps)=true) (ha:zf1 ops M i=true)
  (h:∀w,S w->∀K:Act->World->Prop,Shut (∀v w',S w'->Below w.heap.size w w'->R i v w'->(∀j∈M,∀u,R j u w->Ap u v)->K (a.put o.dst v) w')->Oper.wp P o a w K Q):zh4 P ops Q S R Ap M a i :=
 ⟨o,ZN hd,fun cs b=>Region.noSelect_spec hs i o cs b (ZN hd),hw,zct ha (ZN hd),fun w hS K hK=>h w hS K hK⟩
end Go.Proofs.YtjoapiafpahihabGreat
namespace Go.Proofs.YtjoapiafpahihabGreat
open Go.RowKit Go.Joins
set_option linter.unusedVariables false
set_option linter.unusedSimpArgs false
set_option maxRecDepth 8192
structure Pc where
 w0:World
 L:Lp
 t:Tg
 P:Int
 pb:Nat
 hb:Nat
 ib:Nat
 tb:Nat
 nb:Nat
 mb:Nat
 v0:Value
 v2:Value
 bb:Nat
 bo:Nat
 bc:Nat
 ea:Option Addr
 ec:Nat
def plC (c:Pc):Array Value :=
 #[c.v0,.slice (some ⟨c.bb,c.bo,none⟩) c.L.body.length c.bc,c.v2,iV c.t.u0,iV c.t.u1,iV c.t.u2,iV c.t.w0,iV c.t.w1,iV c.t.w2,iV c.t.r,.slice c.ea (z8 c.L c.t).length c.ec,iV c.P,
   .slice (some ⟨c.hb,0,none⟩) c.L.body.length c.L.body.length,.slice (some ⟨c.ib,0,none⟩) c.L.body.length c.L.body.length,.slice (some ⟨c.tb,0,none⟩) c.L.body.length c.L.body.length,.slice (some ⟨c.nb,0,none⟩) c.L.body.length c.L.body.length,.map (some c.mb)]
structure Ya (c:Pc):Prop where
 may:zx c.L=true
 mayt:zp c.t=true
 p1:1<=c.P
 p2:c.P<=200
 hbb:c.bb<c.w0.heap.size
 bcap:c.L.body.length<=c.bc
 bmax:c.bc<=9223372036854775807
 body:∀i,i<c.L.body.length->∀j,j<9->c.w0.cell? ⟨c.bb,c.bo+i*9+j,none⟩=(zJ (z6 c.L.body i))[j]?
 edges:yP c.w0 (.slice c.ea (z8 c.L c.t).length c.ec) (z8 c.L c.t)
theorem Ya.len {c:Pc} (h:Ya c):1<=c.L.body.length/\c.L.body.length<=16:=⟨(zj h.may).2.1,(zj h.may).2.2.1⟩
theorem Ya.edok {c:Pc} (h:Ya c):∀e∈z8 c.L c.t,VJ c.L.body.length e:=fun e he=>by
 obtain⟨fr,to,bk,wt,h0,h1,h2,h3,h4,h5⟩:=xq h.may e he
 exact⟨fr,to,bk,wt,h0,h1,h2,h5,h4⟩
structure zR (c:Pc) (I:Nat->Bool) (T N:Nat->Int) (x:World):Prop where
 bel:Below c.w0.heap.size c.w0 x
 pl:x.heap[c.pb]?=some (.cells (plC c) 238 (0,0))
 hr:∃H:Nat->Int,zg x c.hb 3 c.L.body.length (fun i=>iV (H i))
 ir:zg x c.ib 4 c.L.body.length (fun i=>.bool (I i))
 tr:zg x c.tb 3 c.L.body.length (fun i=>iV (T i))
 nr:zg x c.nb 3 c.L.body.length (fun i=>iV (N i))
 ge:c.w0.heap.size<=c.pb/\c.w0.heap.size<=c.hb/\c.w0.heap.size<=c.ib/\c.w0.heap.size<=c.tb/\c.w0.heap.size<=c.nb/\c.w0.heap.size<=c.mb
 ne:c.hb≠c.tb/\c.hb≠c.nb/\c.tb≠c.nb
variable {c:Pc} {I:Nat->Bool} {T N:Nat->Int} {x y:World}
theorem zR.lt (h:zR c I T N x):c.pb<x.heap.size:=(Array.getElem?_eq_some_iff.1 h.pl).1
theorem zR.same (h:zR c I T N x) (hb:Below c.w0.heap.size x y) (hp:y.heap[c.pb]?=x.heap[c.pb]?) (hh:y.heap[c.hb]?=x.heap[c.hb]?) (hi:y.heap[c.ib]?=x.heap[c.ib]?) (ht:y.heap[c.tb]?=x.heap[c.tb]?) (hn:y.heap[c.nb]?=x.heap[c.nb]?):zR c I T N y where
 bel:=h.bel.trans hb
 pl:=hp.trans h.pl
 hr:=by obtain⟨H,hH⟩:=h.hr;exact⟨H,hH.of_block hh⟩
 ir:=h.ir.of_block hi
 tr:=h.tr.of_block ht
 nr:=h.nr.of_block hn
 ge:=h.ge
 ne:=h.ne
theorem zR.below (h:zR c I T N x) (hb:Below x.heap.size x y):zR c I T N y:=by
 obtain⟨H,hH⟩:=h.hr
 exact h.same (hb.mono h.bel.size) (hb.block _ h.lt) (hb.block _ hH.lt) (hb.block _ h.ir.lt) (hb.block _ h.tr.lt) (hb.block _ h.nr.lt)
theorem Xu {g:Nat} {cs:Array Value} {e e':TypeId} {n:Nat} {f:Nat->Value} {R:Nat} (h:x.heap[R]?=some (.cells cs e (0,0))) (hr:zg x g e' n f) (he:e≠e'):R≠g:=by
 intro hg
 subst hg
 obtain⟨c',hb,_,_⟩:=hr
 rw [h] at hb
 have h1:=Option.some.inj hb
 injection h1 with _ h2
 exact he h2
theorem yV {f:Int->Int->Int} {q b g n:Nat} {e:TypeId} {k:Nat->Value} (h:yE f q b x) (hr:zg x g e n k):g≠b:=by
 intro hg
 subst hg
 obtain⟨D,⟨es,clock,hb,_⟩,_,_⟩:=h
 obtain⟨c',hb',_,_⟩:=hr
 rw [hb] at hb'
 have h1:=Option.some.inj hb'
 cases h1
theorem zc2 {f:Int->Int->Int} {q b g:Nat} {e:TypeId} {cs:Array Value} {z:Nat × Nat} (h:yE f q b x) (hr:x.heap[g]?=some (.cells cs e z)):g≠b:=by
 intro hg
 subst hg
 obtain⟨D,⟨es,clock,hb,_⟩,_,_⟩:=h
 rw [hb] at hr
 have h1:=Option.some.inj hr
 cases h1
theorem zR.mne {f:Int->Int->Int} {q:Nat} (h:zR c I T N x) (hM:yE f q c.mb x):c.pb≠c.mb/\c.hb≠c.mb/\c.ib≠c.mb/\c.tb≠c.mb/\c.nb≠c.mb:=by
 obtain⟨H,hH⟩:=h.hr
 exact⟨zc2 hM h.pl,yV hM hH,yV hM h.ir,yV hM h.tr,yV hM h.nr⟩
theorem zR.grown (h:zR c I T N x) (hM:c.pb≠c.mb/\c.hb≠c.mb/\c.ib≠c.mb/\c.tb≠c.mb/\c.nb≠c.mb) (hg:x.grownBy y (some c.mb)):zR c I T N y:=by
 obtain⟨H,hH⟩:=h.hr
 have hs:∀g,g<x.heap.size->g≠c.mb->y.heap[g]?=x.heap[g]?:=fun g hg1 hg2=>hg.block g hg1 (by intro e;exact hg2 (Option.some.inj e))
 exact h.same ((Below.refl _ _).grown hg h.bel.size fun k hk=>by have:=Option.some.inj hk;have:=h.ge.2.2.2.2.2;omega) (hs _ h.lt hM.1) (hs _ hH.lt hM.2.1) (hs _ h.ir.lt hM.2.2.1) (hs _ h.tr.lt hM.2.2.2.1) (hs _ h.nr.lt hM.2.2.2.2)
theorem Yv:(4:TypeId)≠3:=by decide
theorem zmz:(238:TypeId)≠3:=by decide
theorem zpf:(238:TypeId)≠4:=by decide
theorem zR.setIn (h:zR c I T N x) (a:Nat) (ha:a<c.L.body.length) (b:Bool):zR c (upB I a b) T N (x.setCell ⟨c.ib,a,none⟩ (.bool b)):=by
 obtain⟨H,hH⟩:=h.hr
 have hb:Below c.w0.heap.size x (x.setCell ⟨c.ib,a,none⟩ (.bool b)):=(Below.refl _ _).setCell h.ge.2.2.1 _
 have hp:c.pb≠c.ib:=Xu h.pl h.ir zpf
 refine⟨h.bel.trans hb,by rw [Below.heap_setCell _ _ _ _ hp];exact h.pl,⟨H,hH.setOther (h.ir.apart hH Yv).symm _⟩,(h.ir.set a (.bool b) ha).congr fun i _=>?_,h.tr.setOther (h.ir.apart h.tr Yv).symm _,h.nr.setOther (h.ir.apart h.nr Yv).symm _,h.ge,h.ne⟩
 unfold upB
 by_cases e:i=a
 ·rw [if_pos e,if_pos e]
 ·rw [if_neg e,if_neg e]
theorem zR.setT (h:zR c I T N x) (a:Nat) (ha:a<c.L.body.length) (v:Int):zR c I (upI T a v) N (x.setCell ⟨c.tb,a,none⟩ (iV v)):=by
 obtain⟨H,hH⟩:=h.hr
 have hb:Below c.w0.heap.size x (x.setCell ⟨c.tb,a,none⟩ (iV v)):=(Below.refl _ _).setCell h.ge.2.2.2.1 _
 have hp:c.pb≠c.tb:=Xu h.pl h.tr zmz
 refine⟨h.bel.trans hb,by rw [Below.heap_setCell _ _ _ _ hp];exact h.pl,⟨H,hH.setOther h.ne.1 _⟩,h.ir.setOther (h.ir.apart h.tr Yv) _,(h.tr.set a (iV v) ha).congr fun i _=>?_,h.nr.setOther h.ne.2.2.symm _,h.ge,h.ne⟩
 unfold upI
 by_cases e:i=a
 ·rw [if_pos e,if_pos e]
 ·rw [if_neg e,if_neg e]
theorem zR.setN (h:zR c I T N x) (a:Nat) (ha:a<c.L.body.length) (v:Int):zR c I T (upI N a v) (x.setCell ⟨c.nb,a,none⟩ (iV v)):=by
 obtain⟨H,hH⟩:=h.hr
 have hb:Below c.w0.heap.size x (x.setCell ⟨c.nb,a,none⟩ (iV v)):=(Below.refl _ _).setCell h.ge.2.2.2.2.1 _
 have hp:c.pb≠c.nb:=Xu h.pl h.nr zmz
 refine⟨h.bel.trans hb,by rw [Below.heap_setCell _ _ _ _ hp];exact h.pl,⟨H,hH.setOther h.ne.2.1 _⟩,h.ir.setOther (h.ir.apart h.nr Yv) _,h.tr.setOther h.ne.2.2 _,(h.nr.set a (iV v) ha).congr fun i _=>?_,h.ge,h.ne⟩
 unfold upI
 by_cases e:i=a
 ·rw [if_pos e,if_pos e]
 ·rw [if_neg e,if_neg e]
theorem zR.fields (h:zR c I T N x):x.cell? ⟨c.pb,1,none⟩=some (.slice (some ⟨c.bb,c.bo,none⟩) c.L.body.length c.bc)/\x.cell? ⟨c.pb,10,none⟩=some (.slice c.ea (z8 c.L c.t).length c.ec)/\x.cell? ⟨c.pb,11,none⟩=some (iV c.P)/\x.cell? ⟨c.pb,12,none⟩=some (.slice (some ⟨c.hb,0,none⟩) c.L.body.length c.L.body.length)/\x.cell? ⟨c.pb,13,none⟩=some (.slice (some ⟨c.ib,0,none⟩) c.L.body.length c.L.body.length)/\x.cell? ⟨c.pb,14,none⟩=some (.slice (some ⟨c.tb,0,none⟩) c.L.body.length c.L.body.length)/\x.cell? ⟨c.pb,15,none⟩=some (.slice (some ⟨c.nb,0,none⟩) c.L.body.length c.L.body.length)/\x.cell? ⟨c.pb,16,none⟩=some (.map (some c.mb)):=by
 refine⟨?_,?_,?_,?_,?_,?_,?_,?_⟩ <;> (rw [cell_of_block h.pl];rfl)
theorem zR.unit (h:zR c I T N x) (cn:Nat) (hc:cn<3):x.cell? ⟨c.pb,3+cn,none⟩=some (iV (zF c.t cn)):=by
 rw [cell_of_block h.pl]
 obtain rfl | rfl | rfl:cn=0\/cn=1\/cn=2:=by omega
 all_goals rfl
theorem zR.stmt (h:zR c I T N x) (ok:Ya c) (a:Nat) (ha:a<c.L.body.length):c.bb<x.heap.size/\∀j,j<9->x.cell? ⟨c.bb,c.bo+a*9+j,none⟩=(zJ (z6 c.L.body a))[j]? :=
 ⟨Nat.lt_of_lt_of_le ok.hbb h.bel.size,fun j hj=>(zc h.bel _ _ ok.hbb).trans (ok.body a ha j hj)⟩
theorem zR.edge (h:zR c I T N x) (ok:Ya c) (k:Nat) (hk:k<(z8 c.L c.t).length):∃eb eo,c.ea=some ⟨eb,eo,none⟩/\eb<x.heap.size/\(z8 c.L c.t).length<=c.ec/\c.ec<=9223372036854775807/\∃fr to bk wt:Nat,zu (z8 c.L c.t) k=⟨fr,to,bk,wt⟩/\fr<c.L.body.length/\to<c.L.body.length/\bk<=32/\wt<=6 /\
  x.cell? ⟨eb,eo+k*4,none⟩=some (iV fr)/\x.cell? ⟨eb,eo+k*4+1,none⟩=some (iV to)/\x.cell? ⟨eb,eo+k*4+2,none⟩=some (iV bk)/\x.cell? ⟨eb,eo+k*4+3,none⟩=some (iV wt):=by
 obtain⟨ea',ec',he1,he2,he3,hec⟩:=ok.edges
 injection he1 with e1 e2 e3
 obtain⟨eb,eo,e4,hebz,hecell⟩:=hec (by omega)
 obtain⟨c0,c1,c2,c3⟩:=zac (hecell k hk)
 obtain⟨fr,to,bk,wt,hed,hfr,hto,hbk,hwt⟩:=ok.edok _ (Zf hk)
 rw [hed] at c0 c1 c2 c3
 unfold maxLen at he3
 refine⟨eb,eo,e1.trans e4,Nat.lt_of_lt_of_le hebz h.bel.size,by omega,by omega,fr,to,bk,wt,hed,hfr,hto,hbk,hwt,?_,?_,?_,?_⟩ <;> rw [zc h.bel _ _ hebz] <;> assumption
theorem Ya.ecap (h:Ya c):(z8 c.L c.t).length<=c.ec/\c.ec<=9223372036854775807:=by
 obtain⟨ea',ec',he1,he2,he3,hec⟩:=h.edges
 injection he1 with e1 e2 e3
 unfold maxLen at he3
 omega
end Go.Proofs.YtjoapiafpahihabGreat
namespace Go.Proofs.YtjoapiafpahihabGreat
open Go.RowKit Go.Joins
set_option linter.unusedVariables false
set_option linter.unusedSimpArgs false
set_option maxRecDepth 8192
variable {c:Pc} {I:Nat->Bool} {T N:Nat->Int}
set_option maxHeartbeats 4000000 in
theorem zel (x:World) (a:Nat) (ok:Ya c) (h:zR c I T N x) (ha:a<c.L.body.length) (h0:0<=T a) (h1:T a<=1000) :
  Calls Tryz.prog 193 #[.pointer (some ⟨c.pb,0,none⟩),iV a] x fun e w'=>e=.returned (.agg #[iV (zC (z6 c.L.body a).o),iV ((T a).tmod c.P)])/\Below x.heap.size x w':=by
 have hp1:=ok.p1
 have hp2:=ok.p2
 have hbc:=ok.bcap
 have hbm:=ok.bmax
 have hai:(a:Int)<(c.L.body.length:Int):=by omega
 have hlen:=ok.len
 have HUO:=z5 (fun W=>Xv (z6 c.L.body a).o (z6 c.L.body a).xa (z6 c.L.body a).xb (z6 c.L.body a).ya (z6 c.L.body a).yb (z6 c.L.body a).ar (z6 c.L.body a).sp (z6 c.L.body a).pl (z6 c.L.body a).nn (T a) c.P W h0 (by omega) hp1 hp2)
 have HROWS:=z5 h
 have hpz:=h.lt
 have HCELL:Hid (∀y,zR c I T N y->(y.cell? ⟨c.tb,a,none⟩=some (iV (T a)))/\∀j,j<9->y.cell? ⟨c.bb,c.bo+a*9+j,none⟩=(zJ (z6 c.L.body a))[j]?):=fun y hy=>⟨hy.tr.cell ha,(hy.stmt ok a ha).2⟩
 obtain⟨tm,htm⟩:∃tm,T a=tm:=⟨_,rfl⟩
 rw [htm] at HUO HCELL h0 h1 ⊢
 obtain⟨cn,hcn⟩:∃cn,zC (z6 c.L.body a).o=cn:=⟨_,rfl⟩
 rw [hcn] at HUO ⊢
 obtain⟨rm,hrm⟩:∃rm,tm.tmod c.P=rm:=⟨_,rfl⟩
 rw [hrm] at HUO ⊢
 generalize z6 c.L.body a=xk at HUO HCELL
 obtain⟨o,xa,xb,ya,yb,ar,sp,pl,nn⟩:=xk
 simp only at HUO
 have HSE:Hid (∀y,Below x.heap.size x y->(y.cell? ⟨c.pb,1,none⟩=some (.slice (some ⟨c.bb,c.bo,none⟩) c.L.body.length c.bc)/\y.cell? ⟨c.pb,11,none⟩=some (iV c.P)/\y.cell? ⟨c.pb,14,none⟩=some (.slice (some ⟨c.tb,0,none⟩) c.L.body.length c.L.body.length))/\(y.cell? ⟨c.tb,a,none⟩=some (iV tm))/\(y.cell? ⟨c.bb,c.bo+a*9,none⟩=some (iV o)/\y.cell? ⟨c.bb,c.bo+a*9+1,none⟩=some (iV xa)/\y.cell? ⟨c.bb,c.bo+a*9+2,none⟩=some (iV xb)/\y.cell? ⟨c.bb,c.bo+a*9+3,none⟩=some (iV ya)/\y.cell? ⟨c.bb,c.bo+a*9+4,none⟩=some (iV yb)/\y.cell? ⟨c.bb,c.bo+a*9+5,none⟩=some (iV ar)/\y.cell? ⟨c.bb,c.bo+a*9+6,none⟩=some (iV sp)/\y.cell? ⟨c.bb,c.bo+a*9+7,none⟩=some (iV pl)/\y.cell? ⟨c.bb,c.bo+a*9+8,none⟩=some (iV nn))):=fun y hy=>by
  have hr:=HROWS.out.below hy
  obtain⟨f1,f10,f11,f12,f13,f14,f15,f16⟩:=hr.fields
  obtain⟨k1,k2⟩:=HCELL.out y hr
  exact⟨⟨f1,f11,f14⟩,k1,Zj k2⟩
 have HB0:Hid (Below x.heap.size x (x.alloc (.cells #[iV 0,iV 0] 195))):=below_alloc1 _ _
 have HS:Hid ((x.alloc (.cells #[iV 0,iV 0] 195)).heap.size=x.heap.size+1):=by show _=_;simp
 have HN:Hid ((x.alloc (.cells #[iV 0,iV 0] 195)).heap[x.heap.size]?=some (.cells #[iV 0,iV 0] 195 (0,0))):=zn _ _ _
 clear h HCELL hcn htm hrm
 go_enter Tryz.func193,Tryz.ntmps193
 go_wp2_with fail
 refine wp_region_noPanic ?_
 refine ze 20 (fun w'=>(w'.cell? ⟨c.pb,1,none⟩=some (.slice (some ⟨c.bb,c.bo,none⟩) c.L.body.length c.bc)/\w'.cell? ⟨c.pb,11,none⟩=some (iV c.P)/\w'.cell? ⟨c.pb,14,none⟩=some (.slice (some ⟨c.tb,0,none⟩) c.L.body.length c.L.body.length))/\(w'.cell? ⟨c.tb,a,none⟩=some (iV tm))/\(w'.cell? ⟨c.bb,c.bo+a*9,none⟩=some (iV o)/\w'.cell? ⟨c.bb,c.bo+a*9+1,none⟩=some (iV xa)/\w'.cell? ⟨c.bb,c.bo+a*9+2,none⟩=some (iV xb)/\w'.cell? ⟨c.bb,c.bo+a*9+3,none⟩=some (iV ya)/\w'.cell? ⟨c.bb,c.bo+a*9+4,none⟩=some (iV yb)/\w'.cell? ⟨c.bb,c.bo+a*9+5,none⟩=some (iV ar)/\w'.cell? ⟨c.bb,c.bo+a*9+6,none⟩=some (iV sp)/\w'.cell? ⟨c.bb,c.bo+a*9+7,none⟩=some (iV pl)/\w'.cell? ⟨c.bb,c.bo+a*9+8,none⟩=some (iV nn))) (by kernel_rfl) (HSE.out _ (HB0.out.trans (zv _ _))) (fun hHeld=>?_)
 refine utk (i:=0) rfl hHeld ?_
 refine utk (i:=1) rfl hHeld ?_
 refine utk (i:=2) rfl hHeld ?_
 refine utk (i:=3) rfl hHeld ?_
 refine utk (i:=4) rfl hHeld ?_
 refine utk (i:=5) rfl hHeld ?_
 refine utk (i:=6) rfl hHeld ?_
 refine utk (i:=7) rfl hHeld ?_
 refine utk (i:=8) rfl hHeld ?_
 refine utk (i:=9) rfl hHeld ?_
 refine utk (i:=10) rfl hHeld ?_
 refine utk (i:=11) rfl hHeld ?_
 refine utk (i:=12) rfl hHeld ?_
 refine utk (i:=13) rfl hHeld ?_
 refine utk (i:=14) rfl hHeld ?_
 refine utk (i:=15) rfl hHeld ?_
 refine utk (i:=16) rfl hHeld ?_
 refine utk (i:=17) rfl hHeld ?_
 refine utk (i:=18) rfl hHeld ?_
 refine z9 (i:=19) rfl (by kernel_rfl) (fun K hK=>?_)
 go_simp
 refine (HUO.out _).mono ?_
 rintro e x1 ⟨rfl,hb1⟩
 have HB1:Hid (Below (x.heap.size+1) (x.alloc (.cells #[iV 0,iV 0] 195)) x1):=(zv _ _).trans (hb1.mono (by show _<=(x.alloc (.cells #[iV 0,iV 0] 195)).heap.size;rw [HS.out];exact Nat.le_refl _))
 have HBX:Hid (Below x.heap.size x x1):=HB0.out.trans (HB1.out.mono (by omega))
 have hHeld:=HSE.out _ HBX.out
 have HN1:Hid (x1.heap[x.heap.size]?=some (.cells #[iV 0,iV 0] 195 (0,0))):=(HB1.out.block _ (by omega)).trans HN.out
 clear hb1
 refine nxt hK.out (.inr hHeld) ?_
 clear hK K
 have n0:x1.cell? ⟨x.heap.size,0,none⟩=some (iV 0):=by rw [cell_of_block HN1.out];rfl
 have n1:x1.cell? ⟨x.heap.size,1,none⟩=some (iV 0):=by rw [cell_of_block HN1.out];rfl
 have f0:x1.frozen? ⟨x.heap.size,0,none⟩=false:=by simp [World.frozen?,HN1.out]
 have f1:x1.frozen? ⟨x.heap.size,1,none⟩=false:=by simp [World.frozen?,HN1.out]
 refine z9 (i:=20) rfl (by kernel_rfl) (fun K hK=>?_)
 go_simp
 refine nxt hK.out (.inl rfl) ?_
 clear hK K
 refine zf (by kernel_rfl) ?_ _
 refine NoPanic.normal ?_
 clear hHeld n0 n1 f0 f1
 obtain⟨s0,s1⟩:=xX (a':=iV cn) (b':=iV rm) HN1.out
 have HW:Hid (Below x.heap.size x ((x1.setCell ⟨x.heap.size,0,none⟩ (iV cn)).setCell ⟨x.heap.size,1,none⟩ (iV rm))):=(HBX.out.setCell (Nat.le_refl _) _).setCell (Nat.le_refl _) _
 generalize (x1.setCell ⟨x.heap.size,0,none⟩ (iV cn)).setCell ⟨x.heap.size,1,none⟩ (iV rm)=W at *
 go_wp2_with fail
 exact bodyPost_ret (v:=.agg #[iV cn,iV rm]) (by simp [results,Tryz.results193,go_sem,s0,s1]) rfl ⟨rfl,HW.out⟩
set_option maxHeartbeats 8000000 in
theorem zlv (x:World) (a q:Nat) (tm:Int) (f:Int->Int->Int) (ok:Ya c) (h:zR c I T N x) (hM:yE f q c.mb x) (ha:a<c.L.body.length) (h0:0<=tm) (h1:tm<=1000) :
  Calls Tryz.prog 192 #[.pointer (some ⟨c.pb,0,none⟩),iV a,iV tm] x fun e w'=>e=.returned (.bool (decide (f (zC (z6 c.L.body a).o) (tm.tmod c.P)=zF c.t (zC (z6 c.L.body a).o))))/\Below x.heap.size x w':=by
 have hp1:=ok.p1
 have hp2:=ok.p2
 have hbc:=ok.bcap
 have hbm:=ok.bmax
 have hai:(a:Int)<(c.L.body.length:Int):=by omega
 have hlen:=ok.len
 have HUO:=z5 (fun W=>Xv (z6 c.L.body a).o (z6 c.L.body a).xa (z6 c.L.body a).xb (z6 c.L.body a).ya (z6 c.L.body a).yb (z6 c.L.body a).ar (z6 c.L.body a).sp (z6 c.L.body a).pl (z6 c.L.body a).nn tm c.P W h0 (by omega) hp1 hp2)
 have HROWS:=z5 h
 have hpz:=h.lt
 have HCELL:Hid (∀y,zR c I T N y->∀j,j<9->y.cell? ⟨c.bb,c.bo+a*9+j,none⟩=(zJ (z6 c.L.body a))[j]?):=fun y hy=>(hy.stmt ok a ha).2
 obtain⟨cn,hcn,hcn3⟩:=VO (z6 c.L.body a).o
 rw [hcn] at HUO ⊢
 have hm1:=Int.tmod_nonneg c.P h0
 have hm2:=Int.tmod_lt_of_pos tm (show 0<c.P by omega)
 obtain⟨rm,hrm⟩:∃rm,tm.tmod c.P=rm:=⟨_,rfl⟩
 rw [hrm] at HUO hm1 hm2 ⊢
 have HUN:Hid (∀y,Below x.heap.size x y->y.cell? ⟨c.pb,3+cn,none⟩=some (iV (zF c.t cn))):=fun y hy=>(HROWS.out.below hy).unit cn hcn3
 obtain⟨un,hun⟩:∃un,zF c.t (cn:Int)=un:=⟨_,rfl⟩
 rw [hun] at HUN ⊢
 have HLK:Hid (∀y,Below x.heap.size x y->(Instr.lookup 194 (.map (some c.mb)) (.agg #[iV cn,iV rm]) false).run Tryz.prog y=.ok (iV (f cn rm)) y):=fun y hy=>(hM.below hy).look cn rm (Yp _ (by omega) (by omega)) (Yp _ (by omega) (by omega))
 obtain⟨fv,hfv⟩:∃fv,f (cn:Int) rm=fv:=⟨_,rfl⟩
 rw [hfv] at HLK ⊢
 generalize z6 c.L.body a=xk at HUO HCELL
 obtain⟨o,xa,xb,ya,yb,ar,sp,pl,nn⟩:=xk
 simp only at HUO
 have hcn3i:(cn:Int)<3:=by omega
 have HSE:Hid (∀y,Below x.heap.size x y->(y.cell? ⟨c.pb,1,none⟩=some (.slice (some ⟨c.bb,c.bo,none⟩) c.L.body.length c.bc)/\y.cell? ⟨c.pb,11,none⟩=some (iV c.P))/\(y.cell? ⟨c.bb,c.bo+a*9,none⟩=some (iV o)/\y.cell? ⟨c.bb,c.bo+a*9+1,none⟩=some (iV xa)/\y.cell? ⟨c.bb,c.bo+a*9+2,none⟩=some (iV xb)/\y.cell? ⟨c.bb,c.bo+a*9+3,none⟩=some (iV ya)/\y.cell? ⟨c.bb,c.bo+a*9+4,none⟩=some (iV yb)/\y.cell? ⟨c.bb,c.bo+a*9+5,none⟩=some (iV ar)/\y.cell? ⟨c.bb,c.bo+a*9+6,none⟩=some (iV sp)/\y.cell? ⟨c.bb,c.bo+a*9+7,none⟩=some (iV pl)/\y.cell? ⟨c.bb,c.bo+a*9+8,none⟩=some (iV nn))):=fun y hy=>by
  have hr:=HROWS.out.below hy
  obtain⟨f1,f10,f11,f12,f13,f14,f15,f16⟩:=hr.fields
  exact⟨⟨f1,f11⟩,Zj (HCELL.out y hr)⟩
 have HMP:Hid (∀y,Below x.heap.size x y->y.cell? ⟨c.pb,16,none⟩=some (.map (some c.mb))):=fun y hy=>(HROWS.out.below hy).fields.2.2.2.2.2.2.2
 clear h hM HCELL hcn hrm hun hfv
 go_enter Tryz.func192,Tryz.ntmps192
 go_wp2_with fail
 refine wp_region_noPanic ?_
 refine ze 15 (fun w'=>(w'.cell? ⟨c.pb,1,none⟩=some (.slice (some ⟨c.bb,c.bo,none⟩) c.L.body.length c.bc)/\w'.cell? ⟨c.pb,11,none⟩=some (iV c.P))/\(w'.cell? ⟨c.bb,c.bo+a*9,none⟩=some (iV o)/\w'.cell? ⟨c.bb,c.bo+a*9+1,none⟩=some (iV xa)/\w'.cell? ⟨c.bb,c.bo+a*9+2,none⟩=some (iV xb)/\w'.cell? ⟨c.bb,c.bo+a*9+3,none⟩=some (iV ya)/\w'.cell? ⟨c.bb,c.bo+a*9+4,none⟩=some (iV yb)/\w'.cell? ⟨c.bb,c.bo+a*9+5,none⟩=some (iV ar)/\w'.cell? ⟨c.bb,c.bo+a*9+6,none⟩=some (iV sp)/\w'.cell? ⟨c.bb,c.bo+a*9+7,none⟩=some (iV pl)/\w'.cell? ⟨c.bb,c.bo+a*9+8,none⟩=some (iV nn))) (by kernel_rfl) (HSE.out _ (zv _ _)) (fun hHeld=>?_)
 refine utk (i:=0) rfl hHeld ?_
 refine utk (i:=1) rfl hHeld ?_
 refine utk (i:=2) rfl hHeld ?_
 refine utk (i:=3) rfl hHeld ?_
 refine utk (i:=4) rfl hHeld ?_
 refine utk (i:=5) rfl hHeld ?_
 refine utk (i:=6) rfl hHeld ?_
 refine utk (i:=7) rfl hHeld ?_
 refine utk (i:=8) rfl hHeld ?_
 refine utk (i:=9) rfl hHeld ?_
 refine utk (i:=10) rfl hHeld ?_
 refine utk (i:=11) rfl hHeld ?_
 refine utk (i:=12) rfl hHeld ?_
 refine Vr (i:=13) (j:=14) rfl rfl (by kernel_rfl) (fun K hK=>?a1) (fun K hK=>?a2)
 case' a1 =>
  go_simp
  refine (HUO.out _).mono ?_
  rintro e x1 ⟨rfl,hb1⟩
  have HB1:Hid (Below x.heap.size x x1):=(zv _ _).trans hb1
  have hHeld:=HSE.out _ HB1.out
  have hsx:x.heap.size<=x1.heap.size:=HB1.out.size
  clear hb1
  refine nxt hK.out (.inr hHeld) ?_
  clear hK K
  have hHeld2:=HSE.out _ (HB1.out.alloc hsx (.cells #[iV 0,iV 0] 195))
  refine z9 (i:=14) rfl (by kernel_rfl) (fun K hK=>?_)
  go_simp
  refine nxt hK.out (.inr hHeld2) ?_
  clear hK K
  refine z9 (i:=15) rfl (by kernel_rfl) (fun K hK=>?_)
  go_simp
  refine nxt hK.out (.inl rfl) ?_
  clear hK K
  refine zf (by kernel_rfl) ?_ _
  refine NoPanic.normal ?_
  clear hHeld hHeld2
  have HW:Hid (Below x.heap.size x (x1.alloc (.cells #[iV cn,iV rm] 195))):=HB1.out.alloc hsx _
  have HU0:Hid ((x1.alloc (.cells #[iV cn,iV rm] 195)).heap[x1.heap.size]?=some (.cells #[iV cn,iV rm] 195 (0,0))):=zn _ _ _
  have HU:Hid (∀y,Below (x1.alloc (.cells #[iV cn,iV rm] 195)).heap.size (x1.alloc (.cells #[iV cn,iV rm] 195)) y->y.cell? ⟨x1.heap.size,0,none⟩=some (iV cn)/\y.cell? ⟨x1.heap.size,1,none⟩=some (iV rm)):=fun y hy=>by
   have hb:=(hy.block x1.heap.size (by simp)).trans HU0.out
   exact⟨by rw [cell_of_block hb];rfl,by rw [cell_of_block hb];rfl⟩
  clear HU0 HB1
  generalize (x1.alloc (.cells #[iV cn,iV rm] 195))=W at *
  generalize hub:x1.heap.size=ub at *
  clear hub
 case' a2 =>
  go_simp
  have hBA:Below x.heap.size x (x.drew.alloc (.cells #[iV 0,iV 0] 195)):=(zv _ _).alloc (Nat.le_refl _) _
  have hHeld1:=HSE.out _ hBA
  refine nxt hK.out (.inr hHeld1) ?_
  clear hK K
  refine z9 (i:=13) rfl (by kernel_rfl) (fun K hK=>?_)
  go_simp
  refine (HUO.out _).mono ?_
  rintro e x1 ⟨rfl,hb1⟩
  have HN0:Hid ((x.drew.alloc (.cells #[iV 0,iV 0] 195)).heap[x.heap.size]?=some (.cells #[iV 0,iV 0] 195 (0,0))):=zn x.drew _ _
  have hz:x.heap.size+1<=(x.drew.alloc (.cells #[iV 0,iV 0] 195)).heap.size:=by simp
  have HN1:Hid (x1.heap[x.heap.size]?=some (.cells #[iV 0,iV 0] 195 (0,0))):=(hb1.block _ (Nat.lt_of_lt_of_le (Nat.lt_succ_self _) hz)).trans HN0.out
  have HB1:Hid (Below x.heap.size x x1):=hBA.trans (hb1.mono (Nat.le_trans (Nat.le_succ _) hz))
  have hHeld2:=HSE.out _ HB1.out
  have hsx:x.heap.size+1<=x1.heap.size:=Nat.le_trans hz hb1.size
  clear hb1 hBA hHeld hz
  refine nxt hK.out (.inr hHeld2) ?_
  clear hK K
  have n0:x1.cell? ⟨x.heap.size,0,none⟩=some (iV 0):=by rw [cell_of_block HN1.out];rfl
  have n1:x1.cell? ⟨x.heap.size,1,none⟩=some (iV 0):=by rw [cell_of_block HN1.out];rfl
  have f0:x1.frozen? ⟨x.heap.size,0,none⟩=false:=by simp [World.frozen?,HN1.out]
  have f1:x1.frozen? ⟨x.heap.size,1,none⟩=false:=by simp [World.frozen?,HN1.out]
  refine z9 (i:=15) rfl (by kernel_rfl) (fun K hK=>?_)
  go_simp
  refine nxt hK.out (.inl rfl) ?_
  clear hK K
  refine zf (by kernel_rfl) ?_ _
  refine NoPanic.normal ?_
  clear hHeld1 hHeld2 n0 n1 f0 f1
  have HW:Hid (Below x.heap.size x ((x1.setCell ⟨x.heap.size,0,none⟩ (iV cn)).setCell ⟨x.heap.size,1,none⟩ (iV rm))):=(HB1.out.setCell (Nat.le_refl _) _).setCell (Nat.le_refl _) _
  have HU:Hid (∀y,Below ((x1.setCell ⟨x.heap.size,0,none⟩ (iV cn)).setCell ⟨x.heap.size,1,none⟩ (iV rm)).heap.size ((x1.setCell ⟨x.heap.size,0,none⟩ (iV cn)).setCell ⟨x.heap.size,1,none⟩ (iV rm)) y->y.cell? ⟨x.heap.size,0,none⟩=some (iV cn)/\y.cell? ⟨x.heap.size,1,none⟩=some (iV rm)):=fun y hy=>by
   obtain⟨s0,s1⟩:=xX (a':=iV cn) (b':=iV rm) HN1.out
   exact⟨(zc hy _ _ (by simp;omega)).trans s0,(zc hy _ _ (by simp;omega)).trans s1⟩
  clear HN0 HN1 HB1 hsx
  generalize ((x1.setCell ⟨x.heap.size,0,none⟩ (iV cn)).setCell ⟨x.heap.size,1,none⟩ (iV rm))=W at *
  generalize hub:x.heap.size=ub at HU ⊢
  clear hub
 all_goals
  have HS2:Hid (∀y,Below W.heap.size W y->(y.cell? ⟨c.pb,16,none⟩=some (.map (some c.mb)))/\(y.cell? ⟨ub,0,none⟩=some (iV cn)/\y.cell? ⟨ub,1,none⟩=some (iV rm))/\y.cell? ⟨c.pb,3+cn,none⟩=some (iV un)/\(Instr.lookup 194 (.map (some c.mb)) (.agg #[iV cn,iV rm]) false).run Tryz.prog y=.ok (iV fv) y):=fun y hy=>by
   have hb:=HW.out.trans (hy.mono HW.out.size)
   exact⟨HMP.out y hb,HU.out y hy,HUN.out y hb,HLK.out y hb⟩
  go_wp2_with fail
  refine wp_region_noPanic ?_
  refine ze 99 (fun w'=>(w'.cell? ⟨c.pb,16,none⟩=some (.map (some c.mb)))/\(w'.cell? ⟨ub,0,none⟩=some (iV cn)/\w'.cell? ⟨ub,1,none⟩=some (iV rm))/\w'.cell? ⟨c.pb,3+cn,none⟩=some (iV un)/\(Instr.lookup 194 (.map (some c.mb)) (.agg #[iV cn,iV rm]) false).run Tryz.prog w'=.ok (iV fv) w') (by kernel_rfl) (HS2.out _ (zv _ _)) (fun hHeld=>?_)
  refine utk (i:=0) rfl hHeld ?_
  refine utk (i:=1) rfl hHeld ?_
  refine utk (i:=2) rfl hHeld ?_
  refine utk (i:=3) rfl hHeld ?_
  refine utk (i:=4) rfl hHeld ?_
  refine utk (i:=5) rfl hHeld ?_
  refine utk (i:=6) rfl hHeld ?_
  refine utk (i:=7) rfl hHeld ?_
  refine utk (i:=8) rfl hHeld ?_
  refine utk (i:=9) rfl hHeld ?_
  refine utk (i:=10) rfl hHeld ?_
  refine utk (i:=11) rfl hHeld ?_
  refine utk (i:=12) rfl hHeld ?_
  refine utk (i:=13) rfl hHeld ?_
  refine utk (i:=14) rfl hHeld ?_
  refine utk (i:=15) rfl hHeld ?_
  refine zf (by kernel_rfl) ?_ _
  refine NoPanic.normal ?_
  have HWD:Hid (Below x.heap.size x W.drew):=HW.out.drew
  clear hHeld
  go_wp2_with fail
  go_ret
  exact⟨by first | rfl | simp,HWD.out⟩
set_option maxHeartbeats 8000000 in
theorem zeg (x:World) (a q:Nat) (f:Int->Int->Int) (ok:Ya c) (h:zR c I T N x) (hM:yE f q c.mb x) (hq:q<1000000) (ha:a<c.L.body.length) (h0:0<=T a) (h1:T a<=1000) (hf:∀s r,-1000000<=f s r/\f s r<=1000000) :
  Calls Tryz.prog 194 #[.pointer (some ⟨c.pb,0,none⟩),iV a] x fun e w'=>e=.returned (.tuple #[])/\zR c (upB I a false) T N w'/\yE (fun s r=>if s=zC (z6 c.L.body a).o/\r=(T a).tmod c.P then f s r - 1 else f s r) (q+1) c.mb w':=by
 have hp1:=ok.p1
 have hlen:=ok.len
 have hai:(a:Int)<(c.L.body.length:Int):=by omega
 obtain⟨f1,f10,f11,f12,f13,f14,f15,f16⟩:=h.fields
 have hfz:=h.ir.frozen a
 have hic:=h.ir.cell ha
 have hpz:=h.lt
 have hiz:=h.ir.lt
 have HX1:Hid (zR c (upB I a false) T N (x.setCell ⟨c.ib,a,none⟩ (.bool false))):=h.setIn a ha false
 have HM1:Hid (yE f q c.mb (x.setCell ⟨c.ib,a,none⟩ (.bool false))):=hM.of_block (Below.heap_setCell _ _ _ _ (yV hM h.ir).symm)
 have HUA:=z5 (fun W (hW:zR c (upB I a false) T N W)=>zel W a ok hW ha h0 h1)
 obtain⟨cn,hcn,hcn3⟩:=VO (z6 c.L.body a).o
 rw [hcn] at HUA ⊢
 have hm1:=Int.tmod_nonneg c.P h0
 have hm2:=Int.tmod_lt_of_pos (T a) (show 0<c.P by omega)
 have hp2:=ok.p2
 obtain⟨rm,hrm⟩:∃rm,(T a).tmod c.P=rm:=⟨_,rfl⟩
 rw [hrm] at HUA hm1 hm2 ⊢
 obtain⟨hf1,hf2⟩:=hf cn rm
 have HLK:Hid (∀y,yE f q c.mb y->(Instr.lookup 194 (.map (some c.mb)) (.agg #[iV cn,iV rm]) false).run Tryz.prog y=.ok (iV (f cn rm)) y):=fun y hy=>hy.look cn rm (Yp _ (by omega) (by omega)) (Yp _ (by omega) (by omega))
 have HST:Hid (∀y,yE f q c.mb y->_):=fun y (hy:yE f q c.mb y)=>hy.step (by unfold maxLen;omega) cn rm (Yp _ (by omega) (by omega)) (Yp _ (by omega) (by omega)) (f cn rm - 1) (Yp _ (by omega) (by omega))
 have HEQ:Hid (∀s r,(fun c' r'=>if c'=(cn:Int)/\r'=rm then f cn rm - 1 else f c' r') s r=(fun s r=>if s=(cn:Int)/\r=rm then f s r - 1 else f s r) s r):=fun s r=>by
  dsimp only
  by_cases e:s=(cn:Int)/\r=rm
  ·rw [if_pos e,if_pos e,e.1,e.2]
  ·rw [if_neg e,if_neg e]
 obtain⟨fv,hfv⟩:∃fv,f (cn:Int) rm=fv:=⟨_,rfl⟩
 rw [hfv] at HLK HST HEQ hf1 hf2
 have hwr:IntKind.i64.wrap (fv - 1)=fv - 1:=yz _ (by omega) (by omega)
 clear hcn hrm hfv hf
 go_enter Tryz.func194,Tryz.ntmps194
 go_wp2_with fail
 clear f1 f10 f11 f12 f13 f14 f15 f16 hic hfz
 generalize x.setCell ⟨c.ib,a,none⟩ (.bool false)=y0 at *
 have HSE:Hid (∀y,Below y0.heap.size y0 y->(y.cell? ⟨c.pb,16,none⟩=some (.map (some c.mb)))/\(Instr.lookup 194 (.map (some c.mb)) (.agg #[iV cn,iV rm]) false).run Tryz.prog y=.ok (iV fv) y):=fun y hy=>⟨(HX1.out.below hy).fields.2.2.2.2.2.2.2,HLK.out y (HM1.out.below hy)⟩
 refine wp_region_noPanic ?_
 refine ze 11 (fun w'=>(w'.cell? ⟨c.pb,16,none⟩=some (.map (some c.mb)))/\(Instr.lookup 194 (.map (some c.mb)) (.agg #[iV cn,iV rm]) false).run Tryz.prog w'=.ok (iV fv) w') (by kernel_rfl) (HSE.out _ (zv _ _)) (fun hHeld=>?_)
 refine utk (i:=0) rfl hHeld ?_
 refine utk (i:=1) rfl hHeld ?_
 refine utk (i:=2) rfl hHeld ?_
 refine utk (i:=3) rfl hHeld ?_
 refine utk (i:=4) rfl hHeld ?_
 refine utk (i:=5) rfl hHeld ?_
 refine z9 (i:=6) rfl (by kernel_rfl) (fun K hK=>?_)
 go_simp
 refine (HUA.out _ (HX1.out.below (zv _ _))).mono ?_
 rintro e x1 ⟨rfl,hb1⟩
 have HB1:Hid (Below y0.heap.size y0 x1):=(zv _ _).trans hb1
 have hHeld:=HSE.out _ HB1.out
 clear hb1
 have HMX:=z5 (HM1.out.below HB1.out)
 have HXX:=z5 (HX1.out.below HB1.out)
 obtain⟨ve,stp,w1,e1,e2,e3,w3,g1,g2,g3⟩:=HST.out _ HMX.out
 refine nxt hK.out (.inr hHeld) ?_
 clear hK K
 refine utk (i:=7) rfl hHeld ?_
 refine utk (i:=8) rfl hHeld ?_
 have HR1:Hid (zR c (upB I a false) T N w1):=HXX.out.grown (HXX.out.mne HMX.out) e2
 have HR3:Hid (zR c (upB I a false) T N w3):=HR1.out.grown (HXX.out.mne HMX.out) g2
 have HM3:=z5 (g3.congr HEQ.out)
 clear g2 g3 e2
 have H1:Hid ((w1.cell? ⟨c.pb,16,none⟩=some (.map (some c.mb)))/\(Instr.lookup 194 (.map (some c.mb)) (.agg #[iV cn,iV rm]) false).run Tryz.prog w1=.ok (iV fv) w1):=⟨HR1.out.fields.2.2.2.2.2.2.2,e3⟩
 refine z9 (i:=9) rfl (by kernel_rfl) (fun K hK=>?_)
 go_simp
 have hHeld:=H1.out
 refine nxt hK.out (.inr hHeld) ?_
 clear hK K
 refine utk (i:=10) rfl hHeld ?_
 refine z9 (i:=11) rfl (by kernel_rfl) (fun K hK=>?_)
 go_simp
 refine nxt hK.out (.inl rfl) ?_
 clear hK K
 refine zf (by kernel_rfl) ?_ _
 refine NoPanic.normal ?_
 clear hHeld e1 g1
 go_wp2_with fail
 go_end0
 exact⟨rfl,HR3.out,HM3.out⟩
end Go.Proofs.YtjoapiafpahihabGreat
namespace Go.Proofs.YtjoapiafpahihabGreat
open Go.RowKit Go.Joins
set_option linter.unusedVariables false
set_option linter.unusedSimpArgs false
set_option maxRecDepth 8192
variable {c:Pc} {I:Nat->Bool} {T N:Nat->Int}
def zpz (c:Pc) (I:Nat->Bool) (x:World) (e:Ending) (w':World):Prop:=∃(fd:Nat) (lf:Bool),e=.returned (.tuple #[iV fd,.bool lf])/\fd<c.L.body.length/\(lf=false->∀j,j<c.L.body.length->I j=true)/\(lf=true->I fd=false)/\Below x.heap.size x w'
set_option maxHeartbeats 8000000 in
theorem zd4 (x:World) (ok:Ya c) (h:zR c I T N x) :
  Calls Tryz.prog 172 #[.pointer (some ⟨c.pb,0,none⟩)] x fun e w'=>zpz c I x e w':=by
 obtain⟨hl1,hl16⟩:=ok.len
 have HR:=z5 h
 have hpz:=h.lt
 obtain⟨f1,f10,f11,f12,f13,f14,f15,f16⟩:=h.fields
 clear h
 go_enter Tryz.func172,Tryz.ntmps172
 go_wp2_with fail
 clear f1 f10 f11 f12 f13 f14 f15 f16
 go_loopw [4,5,13] (fun fv lv i wr=>∃(k fd:Nat) (lf:Bool),k<=c.L.body.length/\i=iV k/\fv=iV fd/\lv=.bool lf/\fd<c.L.body.length/\(lf=false->∀j,j<k->I j=true)/\(lf=true->I fd=false)/\Below x.heap.size x wr) (fun _ _ i _=>c.L.body.length - (intOf i).toNat)
 case atStart=>exact⟨0,0,false,Nat.zero_le _,rfl,rfl,rfl,by omega,fun _ j hj=>absurd hj (Nat.not_lt_zero _),fun h=>absurd h (by simp),Below.refl _ _⟩
 case round =>
  obtain⟨k,fd,lf,hk,rfl,rfl,rfl,hfd,hno,hyes,hbel⟩:=hrel
  have HB:=z5 hbel
  have HNO:=z5 hno
  have HYES:=z5 hyes
  clear hno hyes hbel
  by_cases hkl:k<c.L.body.length
  ·have hki:(k:Int)<(c.L.body.length:Int):=by omega
   have hfi:(fd:Int)<(c.L.body.length:Int):=by omega
   have hrw:=HR.out.below HB.out
   obtain⟨f1,f10,f11,f12,f13,f14,f15,f16⟩:=hrw.fields
   have hpw:=hrw.lt
   obtain⟨H,hH⟩:=hrw.hr
   have h1:=hH.cell hkl
   have h2:=hH.cell hfd
   have h3:=hrw.ir.cell hkl
   have h4:=hH.lt
   have h5:=hrw.ir.lt
   obtain⟨ik,hik⟩:∃ik,I k=ik:=⟨_,rfl⟩
   obtain⟨hhk,hhke⟩:∃hhk,H k=hhk:=⟨_,rfl⟩
   obtain⟨hhf,hhfe⟩:∃hhf,H fd=hhf:=⟨_,rfl⟩
   rw [hik] at h3
   rw [hhke] at h1
   rw [hhfe] at h2
   have HIK:=z5 hik
   clear hik hhke hhfe hH hrw f1 f10 f11 f14 f15 f16
   cases ik with
   | true =>
     go_wp2_with fail
     go_big_quiet ((fail))
     go_wp2_with fail
     go_roundw
     case rel =>
      refine⟨k+1,fd,lf,by omega,by go_num,rfl,rfl,hfd,fun h j hj=>?_,HYES.out,HB.out.trans (below_draws _ _ _)⟩
      by_cases e:j=k
      ·rw [e];exact HIK.out
      ·exact HNO.out h j (by omega)
     case measure=>simp [intOf];omega
   | false =>
     cases lf with
     | false =>
       go_wp2_with fail
       go_big_quiet ((fail))
       go_wp2_with fail
       go_roundw
       case rel=>exact⟨k+1,k,true,by omega,by go_num,rfl,rfl,hkl,fun h=>absurd h (by simp),fun _=>HIK.out,HB.out.trans (below_draws _ _ _)⟩
       case measure=>simp [intOf];omega
     | true =>
       by_cases hgt:hhf<hhk
       ·have hgd:decide (hhf<hhk)=true:=decide_eq_true hgt
        go_wp2_with fail
        go_big_quiet ((fail))
        go_wp2_with fail
        go_roundw
        case rel=>exact⟨k+1,k,true,by omega,by go_num,rfl,rfl,hkl,fun h=>absurd h (by simp),fun _=>HIK.out,HB.out.trans (below_draws _ _ _)⟩
        case measure=>simp [intOf];omega
       ·have hgd:decide (hhf<hhk)=false:=decide_eq_false hgt
        go_wp2_with fail
        go_big_quiet ((fail))
        go_wp2_with fail
        go_roundw
        case rel=>exact⟨k+1,fd,true,by omega,by go_num,rfl,rfl,hfd,fun h=>absurd h (by simp),fun _=>by first | exact HYES.out rfl | exact HYES.out trivial,HB.out.trans (below_draws _ _ _)⟩
        case measure=>simp [intOf];omega
  ·have e:k=c.L.body.length:=by omega
   subst e
   have hki:¬(c.L.body.length:Int)<(c.L.body.length:Int):=by omega
   have HP:Hid (zpz c I x (.returned (.tuple #[iV fd,.bool lf])) wr):=⟨fd,lf,rfl,hfd,HNO.out,HYES.out,HB.out⟩
   go_wp2_with fail
   exact bodyPost_ret (v:=.tuple #[iV fd,.bool lf]) (by simp [results,Tryz.results172,go_sem]) rfl HP.out
def xM (c:Pc) (I:Nat->Bool) (T N:Nat->Int) (a k:Nat) (tm:Int):Prop:=N a<=tm/\tm<=1010/\∀j,j<k->(zu (z8 c.L c.t) j).to.toNat=a->I (zu (z8 c.L c.t) j).fr.toNat=true->T (zu (z8 c.L c.t) j).fr.toNat+zbw c.P (zu (z8 c.L c.t) j)<=tm
theorem xM.step {a k:Nat} {tm tm':Int} (h:xM c I T N a k tm) (h1:tm<=tm') (h2:tm'<=1010) (h3:(zu (z8 c.L c.t) k).to.toNat=a->I (zu (z8 c.L c.t) k).fr.toNat=true->T (zu (z8 c.L c.t) k).fr.toNat+zbw c.P (zu (z8 c.L c.t) k)<=tm'):xM c I T N a (k+1) tm' :=
 ⟨by have:=h.1;omega,h2,fun j hj e1 e2=>by
  by_cases e:j=k
  ·subst e;exact h3 e1 e2
  ·have:=h.2.2 j (by omega) e1 e2;omega⟩
def zkz (c:Pc) (I:Nat->Bool) (T N:Nat->Int) (a:Nat) (x:World) (e:Ending) (w':World):Prop:=∃tm:Int,e=.returned (iV tm)/\xM c I T N a (z8 c.L c.t).length tm/\Below x.heap.size x w'
set_option maxHeartbeats 8000000 in
theorem zjx (x:World) (a:Nat) (ok:Ya c) (h:zR c I T N x) (ha:a<c.L.body.length) (hT:∀i,i<c.L.body.length->0<=T i/\T i<=1000) (hN:0<=N a/\N a<=1001) :
  Calls Tryz.prog 191 #[.pointer (some ⟨c.pb,0,none⟩),iV a] x fun e w'=>zkz c I T N a x e w':=by
 obtain⟨hl1,hl16⟩:=ok.len
 have hp1:=ok.p1
 have hp2:=ok.p2
 obtain⟨hec1,hec2⟩:=ok.ecap
 have HR:=z5 h
 have HT:=z5 hT
 have hpz:=h.lt
 have hnz:=h.nr.lt
 have hnc:=h.nr.cell ha
 have hai:(a:Int)<(c.L.body.length:Int):=by omega
 obtain⟨f1,f10,f11,f12,f13,f14,f15,f16⟩:=h.fields
 have HEG:=z5 (fun y (hy:Below x.heap.size x y) k hk=>(h.below hy).edge ok k hk)
 have HN:=z5 hN
 have HRS:=z5 (fun (k:Nat) (tm tm':Int)=>@xM.step c I T N a k tm tm')
 have HST:Hid (xM c I T N a 0 (N a)):=⟨Int.le_refl _,by omega,fun j hj=>absurd hj (Nat.not_lt_zero _)⟩
 have HEND:Hid (∀tm w',xM c I T N a (z8 c.L c.t).length tm->Below x.heap.size x w'->zkz c I T N a x (.returned (iV tm)) w'):=fun tm w' h1 h2=>⟨tm,rfl,h1,h2⟩
 obtain⟨na,hna⟩:∃na,N a=na:=⟨_,rfl⟩
 rw [hna] at hnc HST
 clear h hT hN hna
 have hes:∃es,z8 c.L c.t=es:=⟨_,rfl⟩
 obtain⟨es,hes⟩:=hes
 rw [hes] at f10 HEG HEND HRS hec1
 have HES:=z5 hes
 clear hes
 go_enter Tryz.func191,Tryz.ntmps191
 go_wp2_with fail
 clear f1 f10 f11 f12 f13 f14 f15 f16 hnc
 go_loopw [5,20] (fun tv i wr=>∃(k:Nat) (tm:Int),k<=es.length/\i=iV k/\tv=iV tm/\xM c I T N a k tm/\Below x.heap.size x wr) (fun _ i _=>es.length - (intOf i).toNat)
 case atStart=>exact⟨0,na,Nat.zero_le _,rfl,rfl,HST.out,Below.refl _ _⟩
 case round =>
  clear HST
  obtain⟨k,tm,hk,rfl,rfl,hrp,hbel⟩:=hrel
  have HRP:=z5 hrp
  have HB:=z5 hbel
  have htm1:0<=tm:=by have:=hrp.1;have:=HN.out;omega
  have htm2:=hrp.2.1
  clear hrp hbel
  by_cases hkl:k<es.length
  ·have hki:(k:Int)<(es.length:Int):=by omega
   obtain⟨eb,eo,hea,hebz,-,-,fr,to,bk,wt,hed,hfr,hto,hbk,hwt,c0,c1,c2,c3⟩:=HEG.out wr HB.out k hkl
   have hrw:=HR.out.below HB.out
   have hpw:=hrw.lt
   have h3:=hrw.ir.cell hfr
   have h5:=hrw.ir.lt
   obtain⟨tf1,tf2⟩:=HT.out fr hfr
   have htt:=hrw.tr.lt
   have hfri:(fr:Int)<(c.L.body.length:Int):=by omega
   have HGAP:=z5 (fun W=>VR fr to bk wt c.P W hbk hwt hp1 hp2)
   have hpb1:0<=(bk:Int)*c.P:=Int.mul_nonneg (by omega) (by omega)
   have hpb2:(bk:Int)*c.P<=32*200:=Int.mul_le_mul (by omega) hp2 (by omega) (by omega)
   have HNX:Hid (∀tm',tm<=tm'->tm'<=1010->(to=a->I fr=true->T fr+((wt:Int) - (bk:Int)*c.P)<=tm')->xM c I T N a (k+1) tm'):=fun tm' g1 g2 g3=>HRS.out k tm tm' HRP.out g1 g2 (by rw [hed];simpa [zbw] using g3)
   have HROW:Hid (∀y,Below wr.heap.size wr y->(y.cell? ⟨c.pb,11,none⟩=some (iV c.P)/\y.cell? ⟨c.pb,14,none⟩=some (.slice (some ⟨c.tb,0,none⟩) c.L.body.length c.L.body.length))/\y.cell? ⟨c.tb,fr,none⟩=some (iV (T fr))):=fun y hy=>by
    have hq:=hrw.below hy
    obtain⟨f1,f10,f11,f12,f13,f14,f15,f16⟩:=hq.fields
    exact⟨⟨f11,f14⟩,hq.tr.cell hfr⟩
   obtain⟨gp,hgp⟩:∃g,(wt:Int) - (bk:Int)*c.P=g:=⟨_,rfl⟩
   rw [hgp] at HGAP HNX
   have hgb:-10000<=gp/\gp<=6:=by omega
   obtain⟨ik,hik⟩:∃ik,I fr=ik:=⟨_,rfl⟩
   obtain⟨tf,htf⟩:∃tf,T fr=tf:=⟨_,rfl⟩
   rw [hik] at h3 HNX
   rw [htf] at tf1 tf2 HNX HROW
   have hwr:IntKind.i64.wrap (tf+gp)=tf+gp:=yz _ (by omega) (by omega)
   have HBOX:Hid (∀y:World,Below (wr.heap.size+1) (wr.alloc (.cells #[iV fr,iV to,iV bk,iV wt] 100)) y->y.cell? ⟨wr.heap.size,0,none⟩=some (iV fr)/\y.cell? ⟨wr.heap.size,1,none⟩=some (iV to)/\y.cell? ⟨wr.heap.size,2,none⟩=some (iV bk)/\y.cell? ⟨wr.heap.size,3,none⟩=some (iV wt)):=fun y hy=>by
    have hb:y.heap[wr.heap.size]?=some (.cells #[iV fr,iV to,iV bk,iV wt] 100 (0,0)):=(hy.block _ (by omega)).trans (zn _ _ _)
    refine⟨?_,?_,?_,?_⟩ <;> (rw [cell_of_block hb];rfl)
   have HBAL:Hid (Below wr.heap.size wr (wr.alloc (.cells #[iV fr,iV to,iV bk,iV wt] 100))):=below_alloc1 _ _
   have HS:Hid ((wr.alloc (.cells #[iV fr,iV to,iV bk,iV wt] 100)).heap.size=wr.heap.size+1):=by show _=_;simp
   obtain⟨f1,f10,f11,f12,f13,f14,f15,f16⟩:=hrw.fields
   clear hed hgp hik htf f1 f10 f11 f12 f14 f15 f16 hrw
   rw [hea]
   by_cases hta:to=a
   ·have htd:decide (to=a)=true:=decide_eq_true hta
    cases ik with
    | false =>
      subst hta
      go_wp2_with fail
      go_big_quiet ((fail))
      go_wp2_with fail
      go_roundw
      case rel=>exact⟨k+1,tm,by omega,by go_num,rfl,HNX.out tm (Int.le_refl _) htm2 (fun _ h=>absurd h (by simp)),(HB.out.trans (HBAL.out.mono HB.out.size)).trans (below_draws _ _ _)⟩
      case measure=>simp [intOf];omega
    | true =>
      subst hta
      go_wp2_with fail
      go_big_quiet ((fail))
      have HWD:Hid (Below (wr.heap.size+1) (wr.alloc (.cells #[iV fr,iV to,iV bk,iV wt] 100)) ((wr.alloc (.cells #[iV fr,iV to,iV bk,iV wt] 100)).drewN nq)):=below_draws _ _ _
      have HSE:Hid (∀y:World,Below (wr.heap.size+1) (wr.alloc (.cells #[iV fr,iV to,iV bk,iV wt] 100)) y->(y.cell? ⟨c.pb,11,none⟩=some (iV c.P)/\y.cell? ⟨c.pb,14,none⟩=some (.slice (some ⟨c.tb,0,none⟩) c.L.body.length c.L.body.length))/\(y.cell? ⟨c.tb,fr,none⟩=some (iV tf))/\(y.cell? ⟨wr.heap.size,0,none⟩=some (iV fr)/\y.cell? ⟨wr.heap.size,1,none⟩=some (iV to)/\y.cell? ⟨wr.heap.size,2,none⟩=some (iV bk)/\y.cell? ⟨wr.heap.size,3,none⟩=some (iV wt))):=fun y hy=>by
       obtain⟨g1,g2⟩:=HROW.out y (HBAL.out.trans (hy.mono (by omega)))
       exact⟨g1,g2,HBOX.out y hy⟩
      go_wp2_with fail
      generalize (wr.alloc (.cells #[iV fr,iV to,iV bk,iV wt] 100)).drewN nq=W at HWD ⊢
      refine wp_region_noPanic ?_
      refine ze 99 (fun w'=>(w'.cell? ⟨c.pb,11,none⟩=some (iV c.P)/\w'.cell? ⟨c.pb,14,none⟩=some (.slice (some ⟨c.tb,0,none⟩) c.L.body.length c.L.body.length))/\(w'.cell? ⟨c.tb,fr,none⟩=some (iV tf))/\(w'.cell? ⟨wr.heap.size,0,none⟩=some (iV fr)/\w'.cell? ⟨wr.heap.size,1,none⟩=some (iV to)/\w'.cell? ⟨wr.heap.size,2,none⟩=some (iV bk)/\w'.cell? ⟨wr.heap.size,3,none⟩=some (iV wt))) (by kernel_rfl) (HSE.out _ (HWD.out.trans (zv _ _))) (fun hHeld=>?_)
      refine utk (i:=0) rfl hHeld ?_
      refine utk (i:=1) rfl hHeld ?_
      refine utk (i:=2) rfl hHeld ?_
      refine utk (i:=3) rfl hHeld ?_
      refine utk (i:=4) rfl hHeld ?_
      refine utk (i:=5) rfl hHeld ?_
      refine utk (i:=6) rfl hHeld ?_
      refine utk (i:=7) rfl hHeld ?_
      refine utk (i:=8) rfl hHeld ?_
      refine utk (i:=9) rfl hHeld ?_
      refine utk (i:=10) rfl hHeld ?_
      refine utk (i:=11) rfl hHeld ?_
      refine utk (i:=12) rfl hHeld ?_
      refine utk (i:=13) rfl hHeld ?_
      refine z9 (i:=14) rfl (by kernel_rfl) (fun K hK=>?_)
      go_simp
      refine (HGAP.out _).mono ?_
      rintro e x1 ⟨rfl,hb1⟩
      have HB1:Hid (Below (wr.heap.size+1) (wr.alloc (.cells #[iV fr,iV to,iV bk,iV wt] 100)) x1):=HWD.out.trans ((zv _ _).trans (hb1.mono (by have:=HWD.out.size;rw [HS.out] at this;exact this)))
      have hHeld:=HSE.out _ HB1.out
      clear hb1
      refine nxt hK.out (.inr hHeld) ?_
      clear hK K
      refine utk (i:=15) rfl hHeld ?_
      refine z9 (i:=16) rfl (by kernel_rfl) (fun K hK=>?_)
      go_simp
      refine nxt hK.out (.inr hHeld) ?_
      clear hK K
      refine z9 (i:=17) rfl (by kernel_rfl) (fun K hK=>?_)
      go_simp
      refine nxt hK.out (.inr hHeld) ?_
      clear hK K
      refine zf (by kernel_rfl) ?_ _
      refine NoPanic.normal ?_
      have HBX:Hid (Below x.heap.size x x1):=HB.out.trans ((HBAL.out.trans (HB1.out.mono (by omega))).mono HB.out.size)
      clear hHeld
      go_wp2_with fail
      all_goals
       go_roundw
       case rel=>exact⟨k+1,_,by omega,by go_num,rfl,HNX.out _ (by omega) (by omega) (fun _ _=>by omega),HBX.out⟩
       case measure=>simp [intOf];omega
   ·have htd:decide (to=a)=false:=decide_eq_false hta
    have htd2:¬(to:Int)=(a:Int):=by omega
    have htd4:((to:Int) == (a:Int))=false:=beq_false_of_ne htd2
    go_wp2_with fail
    go_big_quiet ((fail))
    go_wp2_with fail
    go_roundw
    case rel=>exact⟨k+1,tm,by omega,by go_num,rfl,HNX.out tm (Int.le_refl _) htm2 (fun h=>absurd h hta),(HB.out.trans (HBAL.out.mono HB.out.size)).trans (below_draws _ _ _)⟩
    case measure=>simp [intOf];omega
  ·have e:k=es.length:=by omega
   subst e
   have hki:¬(es.length:Int)<(es.length:Int):=by omega
   have HP:=z5 (HEND.out tm wr HRP.out HB.out)
   go_wp2_with fail
   exact bodyPost_ret (v:=iV tm) (by simp [results,Tryz.results191,go_sem]) rfl HP.out
end Go.Proofs.YtjoapiafpahihabGreat
namespace Go.Proofs.YtjoapiafpahihabGreat
open Go.RowKit Go.Joins
set_option linter.unusedVariables false
set_option linter.unusedSimpArgs false
set_option maxRecDepth 8192
theorem zqv {y:World} {g n fr:Nat} {e:TypeId} {H:Nat->Int} (h:zg y g e n (fun v=>iV (H v))) (v:Int) (hf:fr<n):∃H':Nat->Int,zg (y.setCell ⟨g,fr,none⟩ (iV v)) g e n (fun v=>iV (H' v)) :=
 ⟨fun i=>if i=fr then v else H i,(h.set fr (iV v) hf).congr fun i _=>by
  dsimp only
  by_cases e:i=fr
  ·rw [if_pos e,if_pos e]
  ·rw [if_neg e,if_neg e]⟩
set_option maxHeartbeats 8000000 in
theorem zd3 (n:Nat) (p:Int) (la:Option Addr) (lc:Nat) (l:List Ed) (x:World) (hE:yP x (.slice la l.length lc) l) (hl:∀e∈l,VJ n e) (hn:n<=16) (hp1:1<=p) (hp2:p<=200) :
  Calls Tryz.prog 190 #[.slice la l.length lc,iV n,iV p] x fun e w'=>e=.returned (.slice (some ⟨x.heap.size,0,none⟩) n n)/\Below x.heap.size x w'/\∃H:Nat->Int,zg w' x.heap.size 3 n (fun v=>iV (H v)):=by
 have hmk:=run_make_row' (P:=Tryz.prog) 22 3 (iV 0) 8 Tryz.underlying22 Tryz.j3 rfl .i64 .i64 n (by omega) (by omega)
 have H0:Hid (zg (x.alloc (.cells (madeCells #[iV 0] n) 3)) x.heap.size 3 n (fun v=>iV 0)):=zg.zeros x _ n _
 have HB0:Hid (Below x.heap.size x (x.alloc (.cells (madeCells #[iV 0] n) 3))):=below_alloc1 _ _
 obtain⟨la',lc',he1,he2,he3,hec⟩:=hE
 injection he1 with e1 e2 e3
 subst e1;subst e3
 unfold maxLen at he3
 have HEC:=z5 hec
 have HL:=z5 hl
 clear hec hl e2
 go_enter Tryz.func190,Tryz.ntmps190
 go_wp2_with fail
 go_loopw [13] (fun i wr=>∃r:Nat,r<=n/\i=iV r/\Below x.heap.size x wr/\∃H:Nat->Int,zg wr x.heap.size 3 n (fun v=>iV (H v))) (fun i _=>n - (intOf i).toNat)
 case atStart=>exact⟨0,by omega,rfl,HB0.out,fun _=>0,H0.out⟩
 case round =>
  clear H0 HB0 hmk
  obtain⟨r,hr,rfl,hbel,hrow⟩:=hrel
  have HB:=z5 hbel
  have HROW:=z5 hrow
  clear hrow hbel
  rename World=>wo
  by_cases hrl:r<n
  ·have hri:(r:Int)<(n:Int):=by omega
   go_wp2_with fail
   go_loopw [17] (fun i wr=>∃k:Nat,k<=l.length/\i=iV k/\Below x.heap.size x wr/\∃H:Nat->Int,zg wr x.heap.size 3 n (fun v=>iV (H v))) (fun i _=>l.length - (intOf i).toNat)
   case atStart=>exact⟨0,Nat.zero_le _,rfl,HB.out,HROW.out⟩
   case round =>
    clear HB HROW
    obtain⟨k,hk,rfl,hbel,H,hrow⟩:=hrel
    have HB:=z5 hbel
    have HROW:=z5 hrow
    by_cases hkl:k<l.length
    ·have hki:(k:Int)<(l.length:Int):=by omega
     obtain⟨eb,eo,rfl,hebz,hecell⟩:=HEC.out (by omega)
     obtain⟨c0,c1,c2,c3⟩:=zac (hecell k hkl)
     rw [<-zc hbel _ _ hebz] at c0 c1 c2 c3
     have hebz2:eb<wr.heap.size:=by have:=hbel.size;omega
     obtain⟨fr,to,bk,wt,hed,hfr,hto,hbk,hwt⟩:=HL.out _ (Zf hkl)
     rw [hed] at c0 c1 c2 c3
     simp only at c0 c1 c2 c3
     have hfi:(fr:Int)<(n:Int):=by omega
     have hti:(to:Int)<(n:Int):=by omega
     have hxz:=hrow.lt
     have HGAP:=z5 (fun W=>VR fr to bk wt p W hbk hwt hp1 hp2)
     obtain⟨gp,hgp⟩:∃g,(wt:Int) - (bk:Int)*p=g:=⟨_,rfl⟩
     rw [hgp] at HGAP
     have HRC:Hid (∀y,Below wr.heap.size wr y->zg y x.heap.size 3 n (fun v=>iV (H v))):=fun y hy=>hrow.below hy hrow.lt
     have HHT:Hid (∀y,zg y x.heap.size 3 n (fun v=>iV (H v))->y.cell? ⟨x.heap.size,fr,none⟩=some (iV (H fr))/\y.cell? ⟨x.heap.size,to,none⟩=some (iV (H to))):=fun y hy=>⟨hy.cell hfr,hy.cell hto⟩
     obtain⟨hf,hhf⟩:∃v,H fr=v:=⟨_,rfl⟩
     obtain⟨ht,hht⟩:∃v,H to=v:=⟨_,rfl⟩
     rw [hhf,hht] at HHT
     have HBOX:Hid (∀y:World,Below (wr.heap.size+1) (wr.alloc (.cells #[iV fr,iV to,iV bk,iV wt] 100)) y->y.cell? ⟨wr.heap.size,0,none⟩=some (iV fr)/\y.cell? ⟨wr.heap.size,1,none⟩=some (iV to)/\y.cell? ⟨wr.heap.size,2,none⟩=some (iV bk)/\y.cell? ⟨wr.heap.size,3,none⟩=some (iV wt)):=fun y hy=>by
      have hb:y.heap[wr.heap.size]?=some (.cells #[iV fr,iV to,iV bk,iV wt] 100 (0,0)):=(hy.block _ (by omega)).trans (zn _ _ _)
      refine⟨?_,?_,?_,?_⟩ <;> (rw [cell_of_block hb];rfl)
     have HBAL:Hid (Below wr.heap.size wr (wr.alloc (.cells #[iV fr,iV to,iV bk,iV wt] 100))):=below_alloc1 _ _
     have HS:Hid ((wr.alloc (.cells #[iV fr,iV to,iV bk,iV wt] 100)).heap.size=wr.heap.size+1):=by show _=_;simp
     have HSE:Hid (∀y:World,Below (wr.heap.size+1) (wr.alloc (.cells #[iV fr,iV to,iV bk,iV wt] 100)) y->(y.cell? ⟨x.heap.size,fr,none⟩=some (iV hf)/\y.cell? ⟨x.heap.size,to,none⟩=some (iV ht))/\(y.cell? ⟨wr.heap.size,0,none⟩=some (iV fr)/\y.cell? ⟨wr.heap.size,1,none⟩=some (iV to)/\y.cell? ⟨wr.heap.size,2,none⟩=some (iV bk)/\y.cell? ⟨wr.heap.size,3,none⟩=some (iV wt))):=fun y hy=>⟨HHT.out y (HRC.out y (HBAL.out.trans (hy.mono (by omega)))),HBOX.out y hy⟩
     clear hecell hed hgp hhf hht hrow hbel
     go_wp2_with fail
     refine wp_region_noPanic ?_
     refine ze 19 (fun w'=>(w'.cell? ⟨x.heap.size,fr,none⟩=some (iV hf)/\w'.cell? ⟨x.heap.size,to,none⟩=some (iV ht))/\(w'.cell? ⟨wr.heap.size,0,none⟩=some (iV fr)/\w'.cell? ⟨wr.heap.size,1,none⟩=some (iV to)/\w'.cell? ⟨wr.heap.size,2,none⟩=some (iV bk)/\w'.cell? ⟨wr.heap.size,3,none⟩=some (iV wt))) (by kernel_rfl) (HSE.out _ (zv _ _)) (fun hHeld=>?_)
     refine utk (i:=0) rfl hHeld ?_
     refine utk (i:=1) rfl hHeld ?_
     refine utk (i:=2) rfl hHeld ?_
     refine utk (i:=3) rfl hHeld ?_
     refine utk (i:=4) rfl hHeld ?_
     refine utk (i:=5) rfl hHeld ?_
     refine utk (i:=6) rfl hHeld ?_
     refine utk (i:=7) rfl hHeld ?_
     refine utk (i:=8) rfl hHeld ?_
     refine utk (i:=9) rfl hHeld ?_
     refine utk (i:=10) rfl hHeld ?_
     refine utk (i:=11) rfl hHeld ?_
     refine utk (i:=12) rfl hHeld ?_
     refine utk (i:=13) rfl hHeld ?_
     refine utk (i:=14) rfl hHeld ?_
     refine z9 (i:=15) rfl (by kernel_rfl) (fun K hK=>?_)
     go_simp
     refine (HGAP.out _).mono ?_
     rintro e x1 ⟨rfl,hb1⟩
     have HB1:Hid (Below (wr.heap.size+1) (wr.alloc (.cells #[iV fr,iV to,iV bk,iV wt] 100)) x1):=(zv _ _).trans (hb1.mono (by show _<=(wr.alloc (.cells #[iV fr,iV to,iV bk,iV wt] 100)).heap.size;rw [HS.out];exact Nat.le_refl _))
     have hHeld:=HSE.out _ HB1.out
     clear hb1
     refine nxt hK.out (.inr hHeld) ?_
     clear hK K
     refine utk (i:=16) rfl hHeld ?_
     refine z9 (i:=17) rfl (by kernel_rfl) (fun K hK=>?_)
     go_simp
     refine nxt hK.out (.inr hHeld) ?_
     clear hK K
     refine utk (i:=18) rfl hHeld ?_
     have HX1:=z5 (HRC.out x1 (HBAL.out.trans (HB1.out.mono (by omega))))
     have hfz:=HX1.out.frozen fr
     have hcf:=(HHT.out x1 HX1.out).1
     refine z9 (i:=19) rfl (by kernel_rfl) (fun K hK=>?_)
     go_simp
     refine nxt hK.out (.inl rfl) ?_
     clear hK K
     refine zf (by kernel_rfl) ?_ _
     refine NoPanic.normal ?_
     have HBX:Hid (Below x.heap.size x x1):=HB.out.trans ((HBAL.out.trans (HB1.out.mono (by omega))).mono HB.out.size)
     clear hHeld hfz hcf
     go_wp2_with fail
     all_goals
      go_roundw
      case rel =>
       exact⟨k+1,by omega,by go_num,HBX.out.setCell (Nat.le_refl _) _,zqv HX1.out _ hfr⟩
      case measure=>simp [intOf];omega
    ·have e:k=l.length:=by omega
     subst e
     have hki:¬(l.length:Int)<(l.length:Int):=by omega
     clear hrow hbel
     go_wp2_with fail
     go_roundw
     case rel=>exact⟨r+1,by omega,by go_num,HB.out,H,HROW.out⟩
     case measure=>simp [intOf];omega
  ·have e:r=n:=by omega
   subst e
   have hri:¬(r:Int)<(r:Int):=by omega
   go_wp2_with fail
   exact bodyPost_ret (v:=.slice (some ⟨x.heap.size,0,none⟩) r r) (by simp [results,Tryz.results190,go_sem]) rfl ⟨rfl,HB.out,HROW.out⟩
end Go.Proofs.YtjoapiafpahihabGreat
