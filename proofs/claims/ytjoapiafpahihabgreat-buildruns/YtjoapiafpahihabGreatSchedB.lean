import Derived.Test.YtjoapiafpahihabGreatSchedA
set_option maxHeartbeats 20000000
namespace Go.Proofs.YtjoapiafpahihabGreat
open Go.Proofs.Tryz
open Go.RowKit Go.Joins
set_option linter.unusedVariables false
set_option linter.unusedSimpArgs false
set_option maxRecDepth 8192
variable {a:Act} {M:List Nat} {i g n q b:Nat} {o:Oper} {cs:Array Value} {e:TypeId} {f:Int->Int->Int}
section
variable {P:Program} {ops:Array Oper} {Q:Exit->Act->World->Prop} {md:Region.Mode} {S:World->Prop} {z:Nat}
def YP (ops:Array Oper) (i:Nat):Option Tmp:=match ops[i]? with | some o=>o.dst | none=>none
def Yx (a:Act):List (Option Tmp × Value)->Act
 | []=>a
 | p :: l=>Yx (a.put p.1 p.2) l
theorem zru (l:List (Option Tmp × Value)):∀(a:Act) (p:Option Tmp × Value),Yx a (l++[p])=(Yx a l).put p.1 p.2:=by
 induction l with
 | nil=>intro a p;rfl
 | cons q l ih=>intro a p;exact ih _ p
theorem zjw (l:List (Option Tmp × Value)) (d:Option Tmp) (v:Value):∀(a:Act),(∀p∈l,∀x,d=some x->p.1≠some x)->Yx (a.put d v) l=(Yx a l).put d v:=by
 induction l with
 | nil=>intro a _;rfl
 | cons q l ih =>
   intro a h
   show Yx ((a.put d v).put q.1 q.2) l=_
   rw [Act.put_comm a v q.2 (h q (List.mem_cons_self ..))]
   exact ih _ fun p hp=>h p (List.mem_cons_of_mem _ hp)
theorem zrs (o:Oper) (hs:∀cs b,o.op≠.select cs b) (l:List (Option Tmp × Value)):∀(a:Act),(∀p∈l,∀d,p.1=some d->d ∉ o.looksAt ops)->execOp (Yx a l).eval o=execOp a.eval o:=by
 induction l with
 | nil=>intro a _;rfl
 | cons q l ih =>
   intro a h
   show execOp (Yx (a.put q.1 q.2) l).eval o=_
   rw [ih _ fun p hp=>h p (List.mem_cons_of_mem _ hp),execOp_put (ops:=ops) o hs a q.1 q.2 (h q (List.mem_cons_self ..))]
theorem zjx (o:Oper) (l:List (Option Tmp × Value)):∀(a:Act),(∀p∈l,∀d,p.1=some d->d ∉ o.looksAt ops)->Region.wanted o (yielded ops (Yx a l).tmps)=Region.wanted o (yielded ops a.tmps):=by
 induction l with
 | nil=>intro a _;rfl
 | cons q l ih =>
   intro a h
   show Region.wanted o (yielded ops (Yx (a.put q.1 q.2) l).tmps)=_
   rw [ih _ fun p hp=>h p (List.mem_cons_of_mem _ hp),wanted_put o a q.1 q.2 (h q (List.mem_cons_self ..))]
theorem zrt {l l':List (Option Tmp × Value)} (h:l.Perm l'):l.Pairwise (fun p q=>∀x,p.1=some x->q.1≠some x)->∀a:Act,Yx a l=Yx a l':=by
 induction h with
 | nil=>intro _ a;rfl
 | cons p _ ih=>intro hd a;exact ih (List.pairwise_cons.1 hd).2 _
 | swap p q l =>
   intro hd a
   show Yx ((a.put q.1 q.2).put p.1 p.2) l=Yx ((a.put p.1 p.2).put q.1 q.2) l
   rw [Act.put_comm a q.2 p.2 ((List.pairwise_cons.1 hd).1 p (List.mem_cons_self ..))]
 | trans h1 h2 ih1 ih2 =>
   intro hd a
   rw [ih1 hd a]
   refine ih2 (h1.pairwise hd fun {p q} hpq x hx hq=>hpq x hq hx) a
theorem zz6 (o:Oper) (hs:∀cs b,o.op≠.select cs b) (l:List (Option Tmp × Value)) (hl:∀p∈l,∀d,p.1=some d->d ∉ o.looksAt ops) (hd:∀p∈l,∀x,o.dst=some x->p.1≠some x) (hQ:∀c a w,¬Q (.panic c) a w) {K:Act->World->Prop} {w:World}
  (h:Oper.wp P o a w (fun a' w'=>∃v,a'=a.put o.dst v/\K ((Yx a l).put o.dst v) w') Q):Oper.wp P o (Yx a l) w K Q:=by
 unfold Oper.wp at *
 rw [zrs (ops:=ops) o hs l a hl]
 generalize (execOp a.eval o).run P w=r at *
 have key:∀(u:Value) (w':World),(∃v,a.put o.dst u=a.put o.dst v/\K ((Yx a l).put o.dst v) w')->K ((Yx a l).put o.dst u) w':=fun u w' ⟨v,hv,hk⟩=>by
  have e:(Yx a l).put o.dst u=(Yx a l).put o.dst v:=by
   rw [<-zjw l o.dst u a hd,<-zjw l o.dst v a hd,hv]
  rw [e];exact hk
 cases r with
 | ok n w' =>
   cases n <;> simp only [Oper.upon] at h ⊢
   case value u=>exact key u w' h
   case skip=>exact key _ w' h
   case defer d =>
    obtain⟨v,hv,hk⟩:=h
    exfalso
    have h1:=congrArg Act.defers hv
    cases hdst:o.dst <;> (rw [hdst] at h1;simp [Act.put] at h1)
   case enter f args =>
    refine Calls.mono h fun e w'' he=>?_
    cases e with
    | returned u=>exact key u w'' he
    | panicked c=>exact absurd he (hQ _ _ _)
    | outgrown=>exact he
   case row row args=>exact Rows.mono h fun u w'' he=>key u w'' he
 | halt x w' =>
   cases x <;> simp only [Oper.upon] at h ⊢
   case panic u=>exact absurd h (hQ _ _ _)
def zah (md:Region.Mode) (ops:Array Oper) (fin:Array Bool):Nat->Array Bool->List Nat->Bool
 | 0,gV,rem=>rem.isEmpty && gV == fin
 | n+1,gV,rem=>(Region.ready md ops gV == rem) && rem.all fun i=>zah md ops fin n (gV.setIfInBounds i true) (rem.erase i)
def znu (P:Program) (ops:Array Oper) (Q:Exit->Act->World->Prop) (S:World->Prop) (R:Nat->Value->World->Prop) (Ap:Value->Value->Prop) (M:List Nat) (a:Act) (i:Nat):Prop :=
 ∃ o,ops[i]?=some o/\(∀cs b,o.op≠.select cs b)/\Region.wanted o (yielded ops a.tmps)=true/\(∀j∈M,j≠i->∀d,YP ops j=some d->d ∉ o.looksAt ops/\o.dst≠some d) /\
   ∀w,S w->∀K:Act->World->Prop,(∀v w',S w'->Bw w w'->R i v w'->(∀j∈M,∀u,R j u w->Ap u v)->K (a.put o.dst v) w')->Oper.wp P o a w K Q
theorem zkw (R:Nat->Value->World->Prop) (Ap:Value->Value->Prop) (hsym:∀u v,Ap u v->Ap v u) (M:List Nat) (fin:Array Bool) {fuel:Nat} (hQ:∀c a w,¬Q (.panic c) a w) (hnd:M.Nodup)
  (hstay:∀i∈M,∀v w w',R i v w->Bw w w'->R i v w') (hmk:∀i∈M,znu P ops Q S R Ap M a i)
  (hfin:∀(val:Nat->Value) (w:World),S w->(∀i∈M,R i (val i) w)->(∀i∈M,∀j∈M,i≠j->Ap (val i) (val j))->YK P md ops Q S z fuel fin (Yx a (M.map fun i=>(YP ops i,val i))) w) :
  ∀ (n:Nat) (rem dl:List Nat) (val:Nat->Value) (gV:Array Bool) (w:World),rem.length=n->(dl++rem).Perm M->zah md ops fin n gV rem=true->S w->(∀i∈dl,R i (val i) w)->(∀i∈dl,∀j∈dl,i≠j->Ap (val i) (val j)) ->
    YK P md ops Q S z (fuel+n) gV (Yx a (dl.map fun i=>(YP ops i,val i))) w:=by
 intro n
 induction n with
 | zero =>
   intro rem dl val gV w hl hp hr hS hR hA
   obtain rfl:rem=[]:=List.length_eq_zero_iff.1 hl
   rw [List.append_nil] at hp
   unfold zah at hr
   have e:gV=fin:=by simpa using hr
   subst e
   have hdl:dl.Nodup:=hp.nodup_iff.2 hnd
   have hpw:(dl.map fun i=>(YP ops i,val i)).Pairwise (fun p q=>∀x,p.1=some x->q.1≠some x):=by
    rw [List.pairwise_map]
    refine List.Pairwise.imp_of_mem ?_ hdl
    intro i j hi hj hij x hx hy
    obtain⟨o,ho,_,_,hap,_⟩:=hmk j (hp.mem_iff.1 hj)
    have h1:=(hap i (hp.mem_iff.1 hi) hij x hx).2
    have h2:YP ops j=o.dst:=by unfold YP;rw [ho]
    exact h1 (h2 ▸ hy)
   rw [zrt (hp.map _) hpw]
   exact hfin val w hS (fun i hi=>hR i (hp.mem_iff.2 hi)) (fun i hi j hj=>hA i (hp.mem_iff.2 hi) j (hp.mem_iff.2 hj))
 | succ n ih =>
   intro rem dl val gV w hl hp hr hS hR hA
   unfold zah at hr
   rw [Bool.and_eq_true] at hr
   have hready:Region.ready md ops gV=rem:=by simpa using hr.1
   refine⟨fun h0=>?_,fun i hi=>?_⟩
   ·rw [hready] at h0;rw [h0] at hl;cases hl
   ·rw [hready] at hi
    have hrec:=List.all_eq_true.1 hr.2 i hi
    have hiM:i∈M:=hp.mem_iff.1 (List.mem_append_right _ hi)
    obtain⟨o,ho,hsel,hw,hap,hdo⟩:=hmk i hiM
    have hnd2:(dl++rem).Nodup:=hp.nodup_iff.2 hnd
    have hidl:∀j∈dl,j≠i:=fun j hj e=>by
     subst e
     exact (List.nodup_append.1 hnd2).2.2 j hj j hi rfl
    have hdo':YP ops i=o.dst:=by unfold YP;rw [ho]
    have hlk:∀p∈dl.map (fun j=>(YP ops j,val j)),∀d,p.1=some d->d ∉ o.looksAt ops:=fun p hp' d hd=>by
     obtain⟨j,hj,rfl⟩:=List.mem_map.1 hp'
     exact (hap j (hp.mem_iff.1 (List.mem_append_left _ hj)) (hidl j hj) d hd).1
    have hds:∀p∈dl.map (fun j=>(YP ops j,val j)),∀x,o.dst=some x->p.1≠some x:=fun p hp' x hx hpx=>by
     obtain⟨j,hj,rfl⟩:=List.mem_map.1 hp'
     exact (hap j (hp.mem_iff.1 (List.mem_append_left _ hj)) (hidl j hj) x hpx).2 hx
    unfold wpOp
    simp only [ho]
    rw [zjx o _ a hlk,hw,if_pos rfl]
    refine .inl (zz6 (ops:=ops) o hsel _ hlk hds hQ (hdo w hS _ fun v w' hS' hb hv hnew=>⟨v,rfl,.inr hS',?_⟩))
    have hset:∀j∈dl,(fun j=>if j=i then v else val j) j=val j:=fun j hj=>by
     dsimp only;rw [if_neg (hidl j hj)]
    have hact:(Yx a (dl.map fun j=>(YP ops j,val j))).put o.dst v=Yx a ((dl++[i]).map fun j=>(YP ops j,(fun j=>if j=i then v else val j) j)):=by
     rw [List.map_append]
     show _=Yx a (_++[(YP ops i,if i=i then v else val i)])
     rw [zru,if_pos rfl,hdo']
     congr 2
     exact List.map_congr_left fun j hj=>by rw [hset j hj]
    rw [hact]
    refine ih (rem.erase i) (dl++[i]) _ _ w' (by rw [List.length_erase_of_mem hi,hl];rfl) ?_ hrec hS' (fun j hj=>?_) (fun j hj k hk hjk=>?_)
    ·refine List.Perm.trans ?_ hp
     rw [List.append_assoc]
     exact List.Perm.append_left _ (List.perm_cons_erase hi).symm
    ·rcases List.mem_append.1 hj with hj | hj
     ·rw [if_neg (hidl j hj)]
      exact hstay j (hp.mem_iff.1 (List.mem_append_left _ hj)) _ w w' (hR j hj) hb
     ·obtain rfl:j=i:=by simpa using hj
      rw [if_pos rfl]
      exact hv
    ·have hmj:∀j∈dl,Ap (val j) v:=fun j hj=>hnew j (hp.mem_iff.1 (List.mem_append_left _ hj)) _ (hR j hj)
     rcases List.mem_append.1 hj with hj2 | hj2
     ·rw [if_neg (hidl j hj2)]
      rcases List.mem_append.1 hk with hk2 | hk2
      ·rw [if_neg (hidl k hk2)]
       exact hA j hj2 k hk2 hjk
      ·obtain rfl:k=i:=by simpa using hk2
       rw [if_pos rfl]
       exact hmj j hj2
     ·obtain rfl:j=i:=by simpa using hj2
      rw [if_pos rfl]
      rcases List.mem_append.1 hk with hk2 | hk2
      ·rw [if_neg (hidl k hk2)]
       exact hsym _ _ (hmj k hk2)
      ·obtain rfl:k=j:=by simpa using hk2
       exact absurd rfl hjk
def zl8 (ops:Array Oper) (M:List Nat) (i:Nat):Bool:=match ops[i]? with
 | some o=>M.all fun j=>j == i || (match YP ops j with | some d=>!(o.looksAt ops).contains d && !(o.dst == some d) | none=>true)
 | none=>false
theorem zi7 (h:zl8 ops M i=true) (ho:ops[i]?=some o):∀j∈M,j≠i->∀d,YP ops j=some d->d ∉ o.looksAt ops/\o.dst≠some d:=by
 intro j hj hne d hd
 unfold zl8 at h
 rw [ho] at h
 have h1:=List.all_eq_true.1 h j hj
 rw [hd] at h1
 simp only [Bool.or_eq_true,beq_iff_eq,hne,false_or,Bool.and_eq_true,Bool.not_eq_true'] at h1
 refine⟨fun hm=>?_,fun he=>?_⟩
 ·have:=List.contains_iff_mem.2 hm
  rw [h1.1] at this;cases this
 ·have h2:=h1.2
  rw [he] at h2
  simp at h2
theorem za8 {R:Nat->Value->World->Prop} {Ap:Value->Value->Prop} {rest:List Oper} (hd:ops.toList.drop i=o :: rest) (hs:Region.noSelect ops=true) (hw:Region.wanted o (yielded ops a.tmps)=true) (ha:zl8 ops M i=true)
  (h:∀w,S w->∀K:Act->World->Prop,Shut (∀v w',S w'->Bw w w'->R i v w'->(∀j∈M,∀u,R j u w->Ap u v)->K (a.put o.dst v) w')->Oper.wp P o a w K Q):znu P ops Q S R Ap M a i :=
 ⟨o,Yg hd,fun cs b=>Region.noSelect_spec hs i o cs b (Yg hd),hw,zi7 ha (Yg hd),fun w hS K hK=>h w hS K hK⟩
end
section
structure Pc where
 w0:World
 L:Lp
 t:Tg
 P:Int
 pb:Nat
 hb:Nat
 ib:Nat
 tb:Nat
 nb:Nat
 mb:Nat
 v0:Value
 v2:Value
 bb:Nat
 bo:Nat
 bc:Nat
 ea:Option Addr
 ec:Nat
def plC (c:Pc):Array Value :=
 #[c.v0,.slice (some (ad c.bb c.bo)) c.L.b.length c.bc,c.v2,iV c.t.u0,iV c.t.u1,iV c.t.u2,iV c.t.w0,iV c.t.w1,iV c.t.w2,iV c.t.r,.slice c.ea (zi c.L c.t).length c.ec,iV c.P,
   .slice (pA c.hb) c.L.b.length c.L.b.length,.slice (pA c.ib) c.L.b.length c.L.b.length,.slice (pA c.tb) c.L.b.length c.L.b.length,.slice (pA c.nb) c.L.b.length c.L.b.length,.map (some c.mb)]
structure XS (c:Pc):Prop where
 may:zY c.L=true
 mayt:yj c.t=true
 p1:1<=c.P
 p2:c.P<=200
 hbb:c.bb<c.w0.heap.size
 bcap:c.L.b.length<=c.bc
 bmax:c.bc<=9223372036854775807
 body:∀i,i<c.L.b.length->∀j,j<9->c.w0.cell? (ad c.bb (c.bo+i*9+j))=(zP (zc c.L.b i))[j]?
 edges:Z8 c.w0 (.slice c.ea (zi c.L c.t).length c.ec) (zi c.L c.t)
theorem XS.len {c:Pc} (h:XS c):1<=c.L.b.length/\c.L.b.length<=16:=⟨(zw h.may).2.1,(zw h.may).2.2.1⟩
theorem XS.edok {c:Pc} (h:XS c):∀e∈zi c.L c.t,zek c.L.b.length e:=fun e he=>by
 obtain⟨fr,to,bk,wt,h0,h1,h2,h3,h4,h5⟩:=Zc h.may e he
 exact⟨fr,to,bk,wt,h0,h1,h2,h5,h4⟩
structure yk (c:Pc) (I:Nat->Bool) (T N:Nat->Int) (x:World):Prop where
 bel:Below c.w0.heap.size c.w0 x
 pl:x.heap[c.pb]?=some (.cells (plC c) 238 (0,0))
 hr:∃H:Nat->Int,zu x c.hb 3 c.L.b.length (fun i=>iV (H i))
 ir:zu x c.ib 4 c.L.b.length (fun i=>.bool (I i))
 tr:zu x c.tb 3 c.L.b.length (fun i=>iV (T i))
 nr:zu x c.nb 3 c.L.b.length (fun i=>iV (N i))
 ge:c.w0.heap.size<=c.pb/\c.w0.heap.size<=c.hb/\c.w0.heap.size<=c.ib/\c.w0.heap.size<=c.tb/\c.w0.heap.size<=c.nb/\c.w0.heap.size<=c.mb
 ne:c.hb≠c.tb/\c.hb≠c.nb/\c.tb≠c.nb
variable {c:Pc} {I:Nat->Bool} {T N:Nat->Int} {x y:World}
theorem yk.lt (h:yk c I T N x):c.pb<x.heap.size:=(Array.getElem?_eq_some_iff.1 h.pl).1
theorem yk.same (h:yk c I T N x) (hb:Below c.w0.heap.size x y) (hp:y.heap[c.pb]?=x.heap[c.pb]?) (hh:y.heap[c.hb]?=x.heap[c.hb]?) (hi:y.heap[c.ib]?=x.heap[c.ib]?) (ht:y.heap[c.tb]?=x.heap[c.tb]?) (hn:y.heap[c.nb]?=x.heap[c.nb]?):yk c I T N y where
 bel:=h.bel.trans hb
 pl:=hp.trans h.pl
 hr:=by obtain⟨H,hH⟩:=h.hr;exact⟨H,hH.gG hh⟩
 ir:=h.ir.gG hi
 tr:=h.tr.gG ht
 nr:=h.nr.gG hn
 ge:=h.ge
 ne:=h.ne
theorem yk.gE (h:yk c I T N x) (hb:Bw x y):yk c I T N y:=by
 obtain⟨H,hH⟩:=h.hr
 exact h.same (hb.mono h.bel.size) (hb.block _ h.lt) (hb.block _ hH.lt) (hb.block _ h.ir.lt) (hb.block _ h.tr.lt) (hb.block _ h.nr.lt)
theorem UG {e':TypeId} {f:Nat->Value} {R:Nat} (h:x.heap[R]?=some (.cells cs e (0,0))) (hr:zu x g e' n f) (he:e≠e'):R≠g:=by
 intro hg
 subst hg
 obtain⟨c',hb,_,_⟩:=hr
 rw [h] at hb
 have h1:=Option.some.inj hb
 injection h1 with _ h2
 exact he h2
theorem xL {k:Nat->Value} (h:yW f q b x) (hr:zu x g e n k):g≠b:=by
 intro hg
 subst hg
 obtain⟨D,⟨es,clock,hb,_⟩,_,_⟩:=h
 obtain⟨c',hb',_,_⟩:=hr
 rw [hb] at hb'
 have h1:=Option.some.inj hb'
 cases h1
theorem zhi {z:Nat × Nat} (h:yW f q b x) (hr:x.heap[g]?=some (.cells cs e z)):g≠b:=by
 intro hg
 subst hg
 obtain⟨D,⟨es,clock,hb,_⟩,_,_⟩:=h
 rw [hb] at hr
 have h1:=Option.some.inj hr
 cases h1
theorem yk.mne (h:yk c I T N x) (hM:yW f q c.mb x):c.pb≠c.mb/\c.hb≠c.mb/\c.ib≠c.mb/\c.tb≠c.mb/\c.nb≠c.mb:=by
 obtain⟨H,hH⟩:=h.hr
 exact⟨zhi hM h.pl,xL hM hH,xL hM h.ir,xL hM h.tr,xL hM h.nr⟩
theorem yk.grown (h:yk c I T N x) (hM:c.pb≠c.mb/\c.hb≠c.mb/\c.ib≠c.mb/\c.tb≠c.mb/\c.nb≠c.mb) (hg:x.grownBy y (some c.mb)):yk c I T N y:=by
 obtain⟨H,hH⟩:=h.hr
 have hs:∀g,g<x.heap.size->g≠c.mb->y.heap[g]?=x.heap[g]?:=fun g hg1 hg2=>hg.block g hg1 (by intro e;exact hg2 (Option.some.inj e))
 exact h.same ((Below.refl _ _).grown hg h.bel.size fun k hk=>by have:=Option.some.inj hk;have:=h.ge.2.2.2.2.2;omega) (hs _ h.lt hM.1) (hs _ hH.lt hM.2.1) (hs _ h.ir.lt hM.2.2.1) (hs _ h.tr.lt hM.2.2.2.1) (hs _ h.nr.lt hM.2.2.2.2)
theorem Vo:(4:TypeId)≠3:=by decide
theorem zvs:(238:TypeId)≠3:=by decide
theorem zyh:(238:TypeId)≠4:=by decide
theorem yk.setIn (h:yk c I T N x) (a:Nat) (ha:a<c.L.b.length) (b:Bool):yk c (upB I a b) T N (x.setCell (ad c.ib a) (.bool b)):=by
 obtain⟨H,hH⟩:=h.hr
 have hb:Below c.w0.heap.size x (x.setCell (ad c.ib a) (.bool b)):=(Below.refl _ _).setCell h.ge.2.2.1 _
 have hp:c.pb≠c.ib:=UG h.pl h.ir zyh
 refine⟨h.bel.trans hb,by rw [Below.heap_setCell _ _ _ _ hp];exact h.pl,⟨H,hH.gF (h.ir.apart hH Vo).symm _⟩,(h.ir.set a (.bool b) ha).congr fun i _=>?_,h.tr.gF (h.ir.apart h.tr Vo).symm _,h.nr.gF (h.ir.apart h.nr Vo).symm _,h.ge,h.ne⟩
 unfold upB
 by_cases e:i=a
 ·rw [if_pos e,if_pos e]
 ·rw [if_neg e,if_neg e]
theorem yk.setT (h:yk c I T N x) (a:Nat) (ha:a<c.L.b.length) (v:Int):yk c I (upI T a v) N (x.setCell (ad c.tb a) (iV v)):=by
 obtain⟨H,hH⟩:=h.hr
 have hb:Below c.w0.heap.size x (x.setCell (ad c.tb a) (iV v)):=(Below.refl _ _).setCell h.ge.2.2.2.1 _
 have hp:c.pb≠c.tb:=UG h.pl h.tr zvs
 refine⟨h.bel.trans hb,by rw [Below.heap_setCell _ _ _ _ hp];exact h.pl,⟨H,hH.gF h.ne.1 _⟩,h.ir.gF (h.ir.apart h.tr Vo) _,(h.tr.set a (iV v) ha).congr fun i _=>?_,h.nr.gF h.ne.2.2.symm _,h.ge,h.ne⟩
 unfold upI
 by_cases e:i=a
 ·rw [if_pos e,if_pos e]
 ·rw [if_neg e,if_neg e]
theorem yk.setN (h:yk c I T N x) (a:Nat) (ha:a<c.L.b.length) (v:Int):yk c I T (upI N a v) (x.setCell (ad c.nb a) (iV v)):=by
 obtain⟨H,hH⟩:=h.hr
 have hb:Below c.w0.heap.size x (x.setCell (ad c.nb a) (iV v)):=(Below.refl _ _).setCell h.ge.2.2.2.2.1 _
 have hp:c.pb≠c.nb:=UG h.pl h.nr zvs
 refine⟨h.bel.trans hb,by rw [Below.heap_setCell _ _ _ _ hp];exact h.pl,⟨H,hH.gF h.ne.2.1 _⟩,h.ir.gF (h.ir.apart h.nr Vo) _,h.tr.gF h.ne.2.2 _,(h.nr.set a (iV v) ha).congr fun i _=>?_,h.ge,h.ne⟩
 unfold upI
 by_cases e:i=a
 ·rw [if_pos e,if_pos e]
 ·rw [if_neg e,if_neg e]
theorem yk.fields (h:yk c I T N x):x.cell? (ad c.pb 1)=some (.slice (some (ad c.bb c.bo)) c.L.b.length c.bc)/\x.cell? (ad c.pb 10)=some (.slice c.ea (zi c.L c.t).length c.ec)/\x.cell? (ad c.pb 11)=sI c.P/\x.cell? (ad c.pb 12)=some (.slice (pA c.hb) c.L.b.length c.L.b.length)/\x.cell? (ad c.pb 13)=some (.slice (pA c.ib) c.L.b.length c.L.b.length)/\x.cell? (ad c.pb 14)=some (.slice (pA c.tb) c.L.b.length c.L.b.length)/\x.cell? (ad c.pb 15)=some (.slice (pA c.nb) c.L.b.length c.L.b.length)/\x.cell? (ad c.pb 16)=some (.map (some c.mb)):=by
 refine⟨?_,?_,?_,?_,?_,?_,?_,?_⟩ <;> (rw [cell_of_block h.pl];rfl)
theorem yk.unit (h:yk c I T N x) (cn:Nat) (hc:cn<3):x.cell? (ad c.pb (3+cn))=sI (ye c.t cn):=by
 rw [cell_of_block h.pl]
 obtain rfl | rfl | rfl:cn=0\/cn=1\/cn=2:=by omega
 all_goals rfl
theorem yk.stmt (h:yk c I T N x) (ok:XS c) (a:Nat) (ha:a<c.L.b.length):c.bb<x.heap.size/\∀j,j<9->x.cell? (ad c.bb (c.bo+a*9+j))=(zP (zc c.L.b a))[j]? :=
 ⟨Nat.lt_of_lt_of_le ok.hbb h.bel.size,fun j hj=>(zf h.bel _ _ ok.hbb).trans (ok.body a ha j hj)⟩
theorem yk.edge (h:yk c I T N x) (ok:XS c) (k:Nat) (hk:k<(zi c.L c.t).length):∃eb eo,c.ea=some (ad eb eo)/\eb<x.heap.size/\(zi c.L c.t).length<=c.ec/\c.ec<=9223372036854775807/\∃fr to bk wt:Nat,zM (zi c.L c.t) k=⟨fr,to,bk,wt⟩/\fr<c.L.b.length/\to<c.L.b.length/\bk<=32/\wt<=6 /\
  x.cell? (ad eb (eo+k*4))=sI fr/\x.cell? (ad eb (eo+k*4+1))=sI to/\x.cell? (ad eb (eo+k*4+2))=sI bk/\x.cell? (ad eb (eo+k*4+3))=sI wt:=by
 obtain⟨ea',ec',he1,he2,he3,hec⟩:=ok.edges
 injection he1 with e1 e2 e3
 obtain⟨eb,eo,e4,hebz,hecell⟩:=hec (by omega)
 obtain⟨c0,c1,c2,c3⟩:=ziy (hecell k hk)
 obtain⟨fr,to,bk,wt,hed,hfr,hto,hbk,hwt⟩:=ok.edok _ (Xl hk)
 rw [hed] at c0 c1 c2 c3
 unfold maxLen at he3
 refine⟨eb,eo,e1.trans e4,Nat.lt_of_lt_of_le hebz h.bel.size,by omega,by omega,fr,to,bk,wt,hed,hfr,hto,hbk,hwt,?_,?_,?_,?_⟩ <;> rw [zf h.bel _ _ hebz] <;> assumption
theorem XS.ecap (h:XS c):(zi c.L c.t).length<=c.ec/\c.ec<=9223372036854775807:=by
 obtain⟨ea',ec',he1,he2,he3,hec⟩:=h.edges
 injection he1 with e1 e2 e3
 unfold maxLen at he3
 omega
end
section
variable {c:Pc} {I:Nat->Bool} {T N:Nat->Int}
theorem zks (x:World) (a:Nat) (ok:XS c) (h:yk c I T N x) (ha:a<c.L.b.length) (h0:0<=T a) (h1:T a<=1000) :
  Calls prog 193 #[.pointer (pA c.pb),iV a] x (Rt x (.agg #[iV (zW (zc c.L.b a).o),iV ((T a).tmod c.P)])):=by
 have hp1:=ok.p1
 have hp2:=ok.p2
 have hbc:=ok.bcap
 have hbm:=ok.bmax
 have hai:(a:Int)<(c.L.b.length:Int):=by omega
 have hlen:=ok.len
 have HUO:=z9 (fun W=>UI (zc c.L.b a).o (zc c.L.b a).xa (zc c.L.b a).xb (zc c.L.b a).ya (zc c.L.b a).yb (zc c.L.b a).ar (zc c.L.b a).sp (zc c.L.b a).pl (zc c.L.b a).nn (T a) c.P W h0 (by omega) hp1 hp2)
 have HROWS:=z9 h
 have hpz:=h.lt
 have HCELL:Hid (∀y,yk c I T N y->(y.cell? (ad c.tb a)=sI (T a))/\∀j,j<9->y.cell? (ad c.bb (c.bo+a*9+j))=(zP (zc c.L.b a))[j]?):=fun y hy=>⟨hy.tr.cell ha,(hy.stmt ok a ha).2⟩
 obtain⟨tm,htm⟩:∃tm,T a=tm:=⟨_,rfl⟩
 rw [htm] at HUO HCELL h0 h1 ⊢
 obtain⟨cn,hcn⟩:∃cn,zW (zc c.L.b a).o=cn:=⟨_,rfl⟩
 rw [hcn] at HUO ⊢
 obtain⟨rm,hrm⟩:∃rm,tm.tmod c.P=rm:=⟨_,rfl⟩
 rw [hrm] at HUO ⊢
 generalize zc c.L.b a=xk at HUO HCELL
 obtain⟨o,xa,xb,ya,yb,ar,sp,pl,nn⟩:=xk
 simp only at HUO
 have HSE:Hid (∀y,Bw x y->(y.cell? (ad c.pb 1)=some (.slice (some (ad c.bb c.bo)) c.L.b.length c.bc)/\y.cell? (ad c.pb 11)=sI c.P/\y.cell? (ad c.pb 14)=some (.slice (pA c.tb) c.L.b.length c.L.b.length))/\(y.cell? (ad c.tb a)=sI tm)/\(y.cell? (ad c.bb (c.bo+a*9))=sI o/\y.cell? (ad c.bb (c.bo+a*9+1))=sI xa/\y.cell? (ad c.bb (c.bo+a*9+2))=sI xb/\y.cell? (ad c.bb (c.bo+a*9+3))=sI ya/\y.cell? (ad c.bb (c.bo+a*9+4))=sI yb/\y.cell? (ad c.bb (c.bo+a*9+5))=sI ar/\y.cell? (ad c.bb (c.bo+a*9+6))=sI sp/\y.cell? (ad c.bb (c.bo+a*9+7))=sI pl/\y.cell? (ad c.bb (c.bo+a*9+8))=sI nn)):=fun y hy=>by
  have hr:=HROWS.out.gE hy
  obtain⟨f1,f10,f11,f12,f13,f14,f15,f16⟩:=hr.fields
  obtain⟨k1,k2⟩:=HCELL.out y hr
  exact⟨⟨f1,f11,f14⟩,k1,V5 k2⟩
 have HB0:Hid (Bw x (x.alloc (.cells #[iV 0,iV 0] 195))):=below_alloc1 _ _
 have HS:Hid ((x.alloc (.cells #[iV 0,iV 0] 195)).heap.size=x.heap.size+1):=by show _=_;simp
 have HN:Hid ((x.alloc (.cells #[iV 0,iV 0] 195)).heap[x.heap.size]?=some (.cells #[iV 0,iV 0] 195 (0,0))):=zD _ _ _
 clear h HCELL hcn htm hrm
 go_enter func193,ntmps193
 go_wp2_with fail
 refine wp_region_noPanic ?_
 refine zm 20 (fun w'=>(w'.cell? (ad c.pb 1)=some (.slice (some (ad c.bb c.bo)) c.L.b.length c.bc)/\w'.cell? (ad c.pb 11)=sI c.P/\w'.cell? (ad c.pb 14)=some (.slice (pA c.tb) c.L.b.length c.L.b.length))/\(w'.cell? (ad c.tb a)=sI tm)/\(w'.cell? (ad c.bb (c.bo+a*9))=sI o/\w'.cell? (ad c.bb (c.bo+a*9+1))=sI xa/\w'.cell? (ad c.bb (c.bo+a*9+2))=sI xb/\w'.cell? (ad c.bb (c.bo+a*9+3))=sI ya/\w'.cell? (ad c.bb (c.bo+a*9+4))=sI yb/\w'.cell? (ad c.bb (c.bo+a*9+5))=sI ar/\w'.cell? (ad c.bb (c.bo+a*9+6))=sI sp/\w'.cell? (ad c.bb (c.bo+a*9+7))=sI pl/\w'.cell? (ad c.bb (c.bo+a*9+8))=sI nn)) (by kernel_rfl) (HSE.out _ (HB0.out.trans (zI _ _))) (fun h9=>?_)
 refine uk 0 h9 ?_
 refine uk 1 h9 ?_
 refine uk 2 h9 ?_
 refine uk 3 h9 ?_
 refine uk 4 h9 ?_
 refine uk 5 h9 ?_
 refine uk 6 h9 ?_
 refine uk 7 h9 ?_
 refine uk 8 h9 ?_
 refine uk 9 h9 ?_
 refine uk 10 h9 ?_
 refine uk 11 h9 ?_
 refine uk 12 h9 ?_
 refine uk 13 h9 ?_
 refine uk 14 h9 ?_
 refine uk 15 h9 ?_
 refine uk 16 h9 ?_
 refine uk 17 h9 ?_
 refine uk 18 h9 ?_
 refine ze (i:=19) rfl (by kernel_rfl) (fun K hK=>?_)
 go_simp
 refine (HUO.out _).mono ?_
 rintro e x1 ⟨rfl,hb1⟩
 have HB1:Hid (Below (x.heap.size+1) (x.alloc (.cells #[iV 0,iV 0] 195)) x1):=(zI _ _).trans (hb1.mono (by show _<=(x.alloc (.cells #[iV 0,iV 0] 195)).heap.size;rw [HS.out];exact Nat.le_refl _))
 have HBX:Hid (Bw x x1):=HB0.out.trans (HB1.out.mono (by omega))
 have h9:=HSE.out _ HBX.out
 have HN1:Hid (x1.heap[x.heap.size]?=some (.cells #[iV 0,iV 0] 195 (0,0))):=(HB1.out.block _ (by omega)).trans HN.out
 clear hb1
 refine nxt hK.out (.inr h9) ?_
 clear hK K
 have n0:x1.cell? (ad x.heap.size 0)=sI 0:=by rw [cell_of_block HN1.out];rfl
 have n1:x1.cell? (ad x.heap.size 1)=sI 0:=by rw [cell_of_block HN1.out];rfl
 have f0:x1.frozen? (ad x.heap.size 0)=false:=by simp [World.frozen?,HN1.out]
 have f1:x1.frozen? (ad x.heap.size 1)=false:=by simp [World.frozen?,HN1.out]
 refine ze (i:=20) rfl (by kernel_rfl) (fun K hK=>?_)
 go_simp
 refine nxt hK.out (.inl rfl) ?_
 clear hK K
 refine zq (by kernel_rfl) ?_ _
 refine NoPanic.normal ?_
 clear h9 n0 n1 f0 f1
 obtain⟨s0,s1⟩:=ZQ (a':=iV cn) (b':=iV rm) HN1.out
 have HW:Hid (Bw x ((x1.setCell (ad x.heap.size 0) (iV cn)).setCell (ad x.heap.size 1) (iV rm))):=(HBX.out.setCell (Nat.le_refl _) _).setCell (Nat.le_refl _) _
 generalize (x1.setCell (ad x.heap.size 0) (iV cn)).setCell (ad x.heap.size 1) (iV rm)=W at *
 go_wp2_with fail
 exact bodyPost_ret (v:=.agg #[iV cn,iV rm]) (by simp [results,results193,go_sem,s0,s1]) rfl ⟨rfl,HW.out⟩
theorem zu6 (x:World) (a q:Nat) (tm:Int) (f:Int->Int->Int) (ok:XS c) (h:yk c I T N x) (hM:yW f q c.mb x) (ha:a<c.L.b.length) (h0:0<=tm) (h1:tm<=1000) :
  Calls prog 192 #[.pointer (pA c.pb),iV a,iV tm] x (Rt x (.bool (decide (f (zW (zc c.L.b a).o) (tm.tmod c.P)=ye c.t (zW (zc c.L.b a).o))))):=by
 have hp1:=ok.p1
 have hp2:=ok.p2
 have hbc:=ok.bcap
 have hbm:=ok.bmax
 have hai:(a:Int)<(c.L.b.length:Int):=by omega
 have hlen:=ok.len
 have HUO:=z9 (fun W=>UI (zc c.L.b a).o (zc c.L.b a).xa (zc c.L.b a).xb (zc c.L.b a).ya (zc c.L.b a).yb (zc c.L.b a).ar (zc c.L.b a).sp (zc c.L.b a).pl (zc c.L.b a).nn tm c.P W h0 (by omega) hp1 hp2)
 have HROWS:=z9 h
 have hpz:=h.lt
 have HCELL:Hid (∀y,yk c I T N y->∀j,j<9->y.cell? (ad c.bb (c.bo+a*9+j))=(zP (zc c.L.b a))[j]?):=fun y hy=>(hy.stmt ok a ha).2
 obtain⟨cn,hcn,hcn3⟩:=zc1 (zc c.L.b a).o
 rw [hcn] at HUO ⊢
 have hm1:=Int.tmod_nonneg c.P h0
 have hm2:=Int.tmod_lt_of_pos tm (show 0<c.P by omega)
 obtain⟨rm,hrm⟩:∃rm,tm.tmod c.P=rm:=⟨_,rfl⟩
 rw [hrm] at HUO hm1 hm2 ⊢
 have HUN:Hid (∀y,Bw x y->y.cell? (ad c.pb (3+cn))=sI (ye c.t cn)):=fun y hy=>(HROWS.out.gE hy).unit cn hcn3
 obtain⟨un,hun⟩:∃un,ye c.t (cn:Int)=un:=⟨_,rfl⟩
 rw [hun] at HUN ⊢
 have HLK:Hid (∀y,Bw x y->(Instr.lookup 194 (.map (some c.mb)) (.agg #[iV cn,iV rm]) false).run prog y=.ok (iV (f cn rm)) y):=fun y hy=>(hM.gE hy).look cn rm (Vd _ (by omega) (by omega)) (Vd _ (by omega) (by omega))
 obtain⟨fv,hfv⟩:∃fv,f (cn:Int) rm=fv:=⟨_,rfl⟩
 rw [hfv] at HLK ⊢
 generalize zc c.L.b a=xk at HUO HCELL
 obtain⟨o,xa,xb,ya,yb,ar,sp,pl,nn⟩:=xk
 simp only at HUO
 have hcn3i:(cn:Int)<3:=by omega
 have HSE:Hid (∀y,Bw x y->(y.cell? (ad c.pb 1)=some (.slice (some (ad c.bb c.bo)) c.L.b.length c.bc)/\y.cell? (ad c.pb 11)=sI c.P)/\(y.cell? (ad c.bb (c.bo+a*9))=sI o/\y.cell? (ad c.bb (c.bo+a*9+1))=sI xa/\y.cell? (ad c.bb (c.bo+a*9+2))=sI xb/\y.cell? (ad c.bb (c.bo+a*9+3))=sI ya/\y.cell? (ad c.bb (c.bo+a*9+4))=sI yb/\y.cell? (ad c.bb (c.bo+a*9+5))=sI ar/\y.cell? (ad c.bb (c.bo+a*9+6))=sI sp/\y.cell? (ad c.bb (c.bo+a*9+7))=sI pl/\y.cell? (ad c.bb (c.bo+a*9+8))=sI nn)):=fun y hy=>by
  have hr:=HROWS.out.gE hy
  obtain⟨f1,f10,f11,f12,f13,f14,f15,f16⟩:=hr.fields
  exact⟨⟨f1,f11⟩,V5 (HCELL.out y hr)⟩
 have HMP:Hid (∀y,Bw x y->y.cell? (ad c.pb 16)=some (.map (some c.mb))):=fun y hy=>(HROWS.out.gE hy).fields.2.2.2.2.2.2.2
 clear h hM HCELL hcn hrm hun hfv
 go_enter func192,ntmps192
 go_wp2_with fail
 refine wp_region_noPanic ?_
 refine zm 15 (fun w'=>(w'.cell? (ad c.pb 1)=some (.slice (some (ad c.bb c.bo)) c.L.b.length c.bc)/\w'.cell? (ad c.pb 11)=sI c.P)/\(w'.cell? (ad c.bb (c.bo+a*9))=sI o/\w'.cell? (ad c.bb (c.bo+a*9+1))=sI xa/\w'.cell? (ad c.bb (c.bo+a*9+2))=sI xb/\w'.cell? (ad c.bb (c.bo+a*9+3))=sI ya/\w'.cell? (ad c.bb (c.bo+a*9+4))=sI yb/\w'.cell? (ad c.bb (c.bo+a*9+5))=sI ar/\w'.cell? (ad c.bb (c.bo+a*9+6))=sI sp/\w'.cell? (ad c.bb (c.bo+a*9+7))=sI pl/\w'.cell? (ad c.bb (c.bo+a*9+8))=sI nn)) (by kernel_rfl) (HSE.out _ (zI _ _)) (fun h9=>?_)
 refine uk 0 h9 ?_
 refine uk 1 h9 ?_
 refine uk 2 h9 ?_
 refine uk 3 h9 ?_
 refine uk 4 h9 ?_
 refine uk 5 h9 ?_
 refine uk 6 h9 ?_
 refine uk 7 h9 ?_
 refine uk 8 h9 ?_
 refine uk 9 h9 ?_
 refine uk 10 h9 ?_
 refine uk 11 h9 ?_
 refine uk 12 h9 ?_
 refine Ue (i:=13) (j:=14) rfl rfl (by kernel_rfl) (fun K hK=>?a1) (fun K hK=>?a2)
 case' a1 =>
  go_simp
  refine (HUO.out _).mono ?_
  rintro e x1 ⟨rfl,hb1⟩
  have HB1:Hid (Bw x x1):=(zI _ _).trans hb1
  have h9:=HSE.out _ HB1.out
  have hsx:x.heap.size<=x1.heap.size:=HB1.out.size
  clear hb1
  refine nxt hK.out (.inr h9) ?_
  clear hK K
  have gX:=HSE.out _ (HB1.out.alloc hsx (.cells #[iV 0,iV 0] 195))
  refine ze (i:=14) rfl (by kernel_rfl) (fun K hK=>?_)
  go_simp
  refine nxt hK.out (.inr gX) ?_
  clear hK K
  refine ze (i:=15) rfl (by kernel_rfl) (fun K hK=>?_)
  go_simp
  refine nxt hK.out (.inl rfl) ?_
  clear hK K
  refine zq (by kernel_rfl) ?_ _
  refine NoPanic.normal ?_
  clear h9 gX
  have HW:Hid (Bw x (x1.alloc (.cells #[iV cn,iV rm] 195))):=HB1.out.alloc hsx _
  have HU0:Hid ((x1.alloc (.cells #[iV cn,iV rm] 195)).heap[x1.heap.size]?=some (.cells #[iV cn,iV rm] 195 (0,0))):=zD _ _ _
  have HU:Hid (∀y,Below (x1.alloc (.cells #[iV cn,iV rm] 195)).heap.size (x1.alloc (.cells #[iV cn,iV rm] 195)) y->y.cell? (ad x1.heap.size 0)=sI cn/\y.cell? (ad x1.heap.size 1)=sI rm):=fun y hy=>by
   have hb:=(hy.block x1.heap.size (by simp)).trans HU0.out
   exact⟨by rw [cell_of_block hb];rfl,by rw [cell_of_block hb];rfl⟩
  clear HU0 HB1
  generalize (x1.alloc (.cells #[iV cn,iV rm] 195))=W at *
  generalize hub:x1.heap.size=ub at *
  clear hub
 case' a2 =>
  go_simp
  have hBA:Bw x (x.drew.alloc (.cells #[iV 0,iV 0] 195)):=(zI _ _).alloc (Nat.le_refl _) _
  have gY:=HSE.out _ hBA
  refine nxt hK.out (.inr gY) ?_
  clear hK K
  refine ze (i:=13) rfl (by kernel_rfl) (fun K hK=>?_)
  go_simp
  refine (HUO.out _).mono ?_
  rintro e x1 ⟨rfl,hb1⟩
  have HN0:Hid ((x.drew.alloc (.cells #[iV 0,iV 0] 195)).heap[x.heap.size]?=some (.cells #[iV 0,iV 0] 195 (0,0))):=zD x.drew _ _
  have hz:x.heap.size+1<=(x.drew.alloc (.cells #[iV 0,iV 0] 195)).heap.size:=by simp
  have HN1:Hid (x1.heap[x.heap.size]?=some (.cells #[iV 0,iV 0] 195 (0,0))):=(hb1.block _ (Nat.lt_of_lt_of_le (Nat.lt_succ_self _) hz)).trans HN0.out
  have HB1:Hid (Bw x x1):=hBA.trans (hb1.mono (Nat.le_trans (Nat.le_succ _) hz))
  have gX:=HSE.out _ HB1.out
  have hsx:x.heap.size+1<=x1.heap.size:=Nat.le_trans hz hb1.size
  clear hb1 hBA h9 hz
  refine nxt hK.out (.inr gX) ?_
  clear hK K
  have n0:x1.cell? (ad x.heap.size 0)=sI 0:=by rw [cell_of_block HN1.out];rfl
  have n1:x1.cell? (ad x.heap.size 1)=sI 0:=by rw [cell_of_block HN1.out];rfl
  have f0:x1.frozen? (ad x.heap.size 0)=false:=by simp [World.frozen?,HN1.out]
  have f1:x1.frozen? (ad x.heap.size 1)=false:=by simp [World.frozen?,HN1.out]
  refine ze (i:=15) rfl (by kernel_rfl) (fun K hK=>?_)
  go_simp
  refine nxt hK.out (.inl rfl) ?_
  clear hK K
  refine zq (by kernel_rfl) ?_ _
  refine NoPanic.normal ?_
  clear gY gX n0 n1 f0 f1
  have HW:Hid (Bw x ((x1.setCell (ad x.heap.size 0) (iV cn)).setCell (ad x.heap.size 1) (iV rm))):=(HB1.out.setCell (Nat.le_refl _) _).setCell (Nat.le_refl _) _
  have HU:Hid (∀y,Below ((x1.setCell (ad x.heap.size 0) (iV cn)).setCell (ad x.heap.size 1) (iV rm)).heap.size ((x1.setCell (ad x.heap.size 0) (iV cn)).setCell (ad x.heap.size 1) (iV rm)) y->y.cell? (ad x.heap.size 0)=sI cn/\y.cell? (ad x.heap.size 1)=sI rm):=fun y hy=>by
   obtain⟨s0,s1⟩:=ZQ (a':=iV cn) (b':=iV rm) HN1.out
   exact⟨(zf hy _ _ (by simp;omega)).trans s0,(zf hy _ _ (by simp;omega)).trans s1⟩
  clear HN0 HN1 HB1 hsx
  generalize ((x1.setCell (ad x.heap.size 0) (iV cn)).setCell (ad x.heap.size 1) (iV rm))=W at *
  generalize hub:x.heap.size=ub at HU ⊢
  clear hub
 all_goals
  have HS2:Hid (∀y,Bw W y->(y.cell? (ad c.pb 16)=some (.map (some c.mb)))/\(y.cell? (ad ub 0)=sI cn/\y.cell? (ad ub 1)=sI rm)/\y.cell? (ad c.pb (3+cn))=sI un/\(Instr.lookup 194 (.map (some c.mb)) (.agg #[iV cn,iV rm]) false).run prog y=.ok (iV fv) y):=fun y hy=>by
   have hb:=HW.out.trans (hy.mono HW.out.size)
   exact⟨HMP.out y hb,HU.out y hy,HUN.out y hb,HLK.out y hb⟩
  go_wp2_with fail
  refine wp_region_noPanic ?_
  refine zm 99 (fun w'=>(w'.cell? (ad c.pb 16)=some (.map (some c.mb)))/\(w'.cell? (ad ub 0)=sI cn/\w'.cell? (ad ub 1)=sI rm)/\w'.cell? (ad c.pb (3+cn))=sI un/\(Instr.lookup 194 (.map (some c.mb)) (.agg #[iV cn,iV rm]) false).run prog w'=.ok (iV fv) w') (by kernel_rfl) (HS2.out _ (zI _ _)) (fun h9=>?_)
  refine uk 0 h9 ?_
  refine uk 1 h9 ?_
  refine uk 2 h9 ?_
  refine uk 3 h9 ?_
  refine uk 4 h9 ?_
  refine uk 5 h9 ?_
  refine uk 6 h9 ?_
  refine uk 7 h9 ?_
  refine uk 8 h9 ?_
  refine uk 9 h9 ?_
  refine uk 10 h9 ?_
  refine uk 11 h9 ?_
  refine uk 12 h9 ?_
  refine uk 13 h9 ?_
  refine uk 14 h9 ?_
  refine uk 15 h9 ?_
  refine zq (by kernel_rfl) ?_ _
  refine NoPanic.normal ?_
  have HWD:Hid (Bw x W.drew):=HW.out.drew
  clear h9
  go_wp2_with fail
  go_ret
  exact⟨by first | rfl | simp,HWD.out⟩
theorem zko (x:World) (a q:Nat) (f:Int->Int->Int) (ok:XS c) (h:yk c I T N x) (hM:yW f q c.mb x) (hq:q<1000000) (ha:a<c.L.b.length) (h0:0<=T a) (h1:T a<=1000) (hf:∀s r,-1000000<=f s r/\f s r<=1000000) :
  Calls prog 194 #[.pointer (pA c.pb),iV a] x fun e w'=>e=.returned (.tuple #[])/\yk c (upB I a false) T N w'/\yW (fun s r=>if s=zW (zc c.L.b a).o/\r=(T a).tmod c.P then f s r - 1 else f s r) (q+1) c.mb w':=by
 have hp1:=ok.p1
 have hlen:=ok.len
 have hai:(a:Int)<(c.L.b.length:Int):=by omega
 obtain⟨f1,f10,f11,f12,f13,f14,f15,f16⟩:=h.fields
 have hfz:=h.ir.frozen a
 have hic:=h.ir.cell ha
 have hpz:=h.lt
 have hiz:=h.ir.lt
 have HX1:Hid (yk c (upB I a false) T N (x.setCell (ad c.ib a) (.bool false))):=h.setIn a ha false
 have HM1:Hid (yW f q c.mb (x.setCell (ad c.ib a) (.bool false))):=hM.gG (Below.heap_setCell _ _ _ _ (xL hM h.ir).symm)
 have HUA:=z9 (fun W (hW:yk c (upB I a false) T N W)=>zks W a ok hW ha h0 h1)
 obtain⟨cn,hcn,hcn3⟩:=zc1 (zc c.L.b a).o
 rw [hcn] at HUA ⊢
 have hm1:=Int.tmod_nonneg c.P h0
 have hm2:=Int.tmod_lt_of_pos (T a) (show 0<c.P by omega)
 have hp2:=ok.p2
 obtain⟨rm,hrm⟩:∃rm,(T a).tmod c.P=rm:=⟨_,rfl⟩
 rw [hrm] at HUA hm1 hm2 ⊢
 obtain⟨hf1,hf2⟩:=hf cn rm
 have HLK:Hid (∀y,yW f q c.mb y->(Instr.lookup 194 (.map (some c.mb)) (.agg #[iV cn,iV rm]) false).run prog y=.ok (iV (f cn rm)) y):=fun y hy=>hy.look cn rm (Vd _ (by omega) (by omega)) (Vd _ (by omega) (by omega))
 have HST:Hid (∀y,yW f q c.mb y->_):=fun y (hy:yW f q c.mb y)=>hy.step (by unfold maxLen;omega) cn rm (Vd _ (by omega) (by omega)) (Vd _ (by omega) (by omega)) (f cn rm - 1) (Vd _ (by omega) (by omega))
 have HEQ:Hid (∀s r,(fun c' r'=>if c'=(cn:Int)/\r'=rm then f cn rm - 1 else f c' r') s r=(fun s r=>if s=(cn:Int)/\r=rm then f s r - 1 else f s r) s r):=fun s r=>by
  dsimp only
  by_cases e:s=(cn:Int)/\r=rm
  ·rw [if_pos e,if_pos e,e.1,e.2]
  ·rw [if_neg e,if_neg e]
 obtain⟨fv,hfv⟩:∃fv,f (cn:Int) rm=fv:=⟨_,rfl⟩
 rw [hfv] at HLK HST HEQ hf1 hf2
 have hwr:IntKind.i64.wrap (fv - 1)=fv - 1:=xw _ (by omega) (by omega)
 clear hcn hrm hfv hf
 go_enter func194,ntmps194
 go_wp2_with fail
 clear f1 f10 f11 f12 f13 f14 f15 f16 hic hfz
 generalize x.setCell (ad c.ib a) (.bool false)=y0 at *
 have HSE:Hid (∀y,Bw y0 y->(y.cell? (ad c.pb 16)=some (.map (some c.mb)))/\(Instr.lookup 194 (.map (some c.mb)) (.agg #[iV cn,iV rm]) false).run prog y=.ok (iV fv) y):=fun y hy=>⟨(HX1.out.gE hy).fields.2.2.2.2.2.2.2,HLK.out y (HM1.out.gE hy)⟩
 refine wp_region_noPanic ?_
 refine zm 11 (fun w'=>(w'.cell? (ad c.pb 16)=some (.map (some c.mb)))/\(Instr.lookup 194 (.map (some c.mb)) (.agg #[iV cn,iV rm]) false).run prog w'=.ok (iV fv) w') (by kernel_rfl) (HSE.out _ (zI _ _)) (fun h9=>?_)
 refine uk 0 h9 ?_
 refine uk 1 h9 ?_
 refine uk 2 h9 ?_
 refine uk 3 h9 ?_
 refine uk 4 h9 ?_
 refine uk 5 h9 ?_
 refine ze (i:=6) rfl (by kernel_rfl) (fun K hK=>?_)
 go_simp
 refine (HUA.out _ (HX1.out.gE (zI _ _))).mono ?_
 rintro e x1 ⟨rfl,hb1⟩
 have HB1:Hid (Bw y0 x1):=(zI _ _).trans hb1
 have h9:=HSE.out _ HB1.out
 clear hb1
 have HMX:=z9 (HM1.out.gE HB1.out)
 have HXX:=z9 (HX1.out.gE HB1.out)
 obtain⟨ve,stp,w1,e1,e2,e3,w3,g1,g2,g3⟩:=HST.out _ HMX.out
 refine nxt hK.out (.inr h9) ?_
 clear hK K
 refine uk 7 h9 ?_
 refine uk 8 h9 ?_
 have HR1:Hid (yk c (upB I a false) T N w1):=HXX.out.grown (HXX.out.mne HMX.out) e2
 have HR3:Hid (yk c (upB I a false) T N w3):=HR1.out.grown (HXX.out.mne HMX.out) g2
 have HM3:=z9 (g3.congr HEQ.out)
 clear g2 g3 e2
 have H1:Hid ((w1.cell? (ad c.pb 16)=some (.map (some c.mb)))/\(Instr.lookup 194 (.map (some c.mb)) (.agg #[iV cn,iV rm]) false).run prog w1=.ok (iV fv) w1):=⟨HR1.out.fields.2.2.2.2.2.2.2,e3⟩
 refine ze (i:=9) rfl (by kernel_rfl) (fun K hK=>?_)
 go_simp
 have h9:=H1.out
 refine nxt hK.out (.inr h9) ?_
 clear hK K
 refine uk 10 h9 ?_
 refine ze (i:=11) rfl (by kernel_rfl) (fun K hK=>?_)
 go_simp
 refine nxt hK.out (.inl rfl) ?_
 clear hK K
 refine zq (by kernel_rfl) ?_ _
 refine NoPanic.normal ?_
 clear h9 e1 g1
 go_wp2_with fail
 go_end0
 exact⟨rfl,HR3.out,HM3.out⟩
end
section
variable {c:Pc} {I:Nat->Bool} {T N:Nat->Int}
def zz9 (c:Pc) (I:Nat->Bool) (x:World) (e:Ending) (w':World):Prop:=∃(fd:Nat) (lf:Bool),e=.returned (.tuple #[iV fd,.bool lf])/\fd<c.L.b.length/\(lf=false->∀j,j<c.L.b.length->I j=true)/\(lf=true->I fd=false)/\Bw x w'
theorem zj2 (x:World) (ok:XS c) (h:yk c I T N x) :
  Calls prog 172 #[.pointer (pA c.pb)] x fun e w'=>zz9 c I x e w':=by
 obtain⟨hl1,hl16⟩:=ok.len
 have HR:=z9 h
 have hpz:=h.lt
 obtain⟨f1,f10,f11,f12,f13,f14,f15,f16⟩:=h.fields
 clear h
 go_enter func172,ntmps172
 go_wp2_with fail
 clear f1 f10 f11 f12 f13 f14 f15 f16
 go_loopw [4,5,13] (fun fv lv i wr=>∃(k fd:Nat) (lf:Bool),k<=c.L.b.length/\i=iV k/\fv=iV fd/\lv=.bool lf/\fd<c.L.b.length/\(lf=false->∀j,j<k->I j=true)/\(lf=true->I fd=false)/\Bw x wr) (fun _ _ i _=>c.L.b.length - (intOf i).toNat)
 case atStart=>exact⟨0,0,false,Nat.zero_le _,rfl,rfl,rfl,by omega,fun _ j hj=>absurd hj (Nat.not_lt_zero _),fun h=>absurd h (by simp),Below.refl _ _⟩
 case round =>
  obtain⟨k,fd,lf,hk,rfl,rfl,rfl,hfd,hno,hyes,gH⟩:=hrel
  have HB:=z9 gH
  have HNO:=z9 hno
  have HYES:=z9 hyes
  clear hno hyes gH
  by_cases hkl:k<c.L.b.length
  ·have hki:(k:Int)<(c.L.b.length:Int):=by omega
   have hfi:(fd:Int)<(c.L.b.length:Int):=by omega
   have hrw:=HR.out.gE HB.out
   obtain⟨f1,f10,f11,f12,f13,f14,f15,f16⟩:=hrw.fields
   have hpw:=hrw.lt
   obtain⟨H,hH⟩:=hrw.hr
   have h1:=hH.cell hkl
   have h2:=hH.cell hfd
   have h3:=hrw.ir.cell hkl
   have h4:=hH.lt
   have h5:=hrw.ir.lt
   obtain⟨ik,hik⟩:∃ik,I k=ik:=⟨_,rfl⟩
   obtain⟨hhk,hhke⟩:∃hhk,H k=hhk:=⟨_,rfl⟩
   obtain⟨hhf,hhfe⟩:∃hhf,H fd=hhf:=⟨_,rfl⟩
   rw [hik] at h3
   rw [hhke] at h1
   rw [hhfe] at h2
   have HIK:=z9 hik
   clear hik hhke hhfe hH hrw f1 f10 f11 f14 f15 f16
   cases ik with
   | true =>
     go_wp2_with fail
     go_big_quiet ((fail))
     go_wp2_with fail
     go_roundw
     case rel =>
      refine⟨k+1,fd,lf,by omega,by go_num,rfl,rfl,hfd,fun h j hj=>?_,HYES.out,HB.out.trans (below_draws _ _ _)⟩
      by_cases e:j=k
      ·rw [e];exact HIK.out
      ·exact HNO.out h j (by omega)
     case measure=>simp [intOf];omega
   | false =>
     cases lf with
     | false =>
       go_wp2_with fail
       go_big_quiet ((fail))
       go_wp2_with fail
       go_roundw
       case rel=>exact⟨k+1,k,true,by omega,by go_num,rfl,rfl,hkl,fun h=>absurd h (by simp),fun _=>HIK.out,HB.out.trans (below_draws _ _ _)⟩
       case measure=>simp [intOf];omega
     | true =>
       by_cases hgt:hhf<hhk
       ·have hgd:decide (hhf<hhk)=true:=decide_eq_true hgt
        go_wp2_with fail
        go_big_quiet ((fail))
        go_wp2_with fail
        go_roundw
        case rel=>exact⟨k+1,k,true,by omega,by go_num,rfl,rfl,hkl,fun h=>absurd h (by simp),fun _=>HIK.out,HB.out.trans (below_draws _ _ _)⟩
        case measure=>simp [intOf];omega
       ·have hgd:decide (hhf<hhk)=false:=decide_eq_false hgt
        go_wp2_with fail
        go_big_quiet ((fail))
        go_wp2_with fail
        go_roundw
        case rel=>exact⟨k+1,fd,true,by omega,by go_num,rfl,rfl,hfd,fun h=>absurd h (by simp),fun _=>by first | exact HYES.out rfl | exact HYES.out trivial,HB.out.trans (below_draws _ _ _)⟩
        case measure=>simp [intOf];omega
  ·have e:k=c.L.b.length:=by omega
   subst e
   have hki:¬(c.L.b.length:Int)<(c.L.b.length:Int):=by omega
   have HP:Hid (zz9 c I x (.returned (.tuple #[iV fd,.bool lf])) wr):=⟨fd,lf,rfl,hfd,HNO.out,HYES.out,HB.out⟩
   go_wp2_with fail
   exact bodyPost_ret (v:=.tuple #[iV fd,.bool lf]) (by simp [results,results172,go_sem]) rfl HP.out
def ZB (c:Pc) (I:Nat->Bool) (T N:Nat->Int) (a k:Nat) (tm:Int):Prop:=N a<=tm/\tm<=1010/\∀j,j<k->(zM (zi c.L c.t) j).to.toNat=a->I (zM (zi c.L c.t) j).fr.toNat=true->T (zM (zi c.L c.t) j).fr.toNat+zhb c.P (zM (zi c.L c.t) j)<=tm
theorem ZB.step {a k:Nat} {tm tm':Int} (h:ZB c I T N a k tm) (h1:tm<=tm') (h2:tm'<=1010) (h3:(zM (zi c.L c.t) k).to.toNat=a->I (zM (zi c.L c.t) k).fr.toNat=true->T (zM (zi c.L c.t) k).fr.toNat+zhb c.P (zM (zi c.L c.t) k)<=tm'):ZB c I T N a (k+1) tm' :=
 ⟨by have:=h.1;omega,h2,fun j hj e1 e2=>by
  by_cases e:j=k
  ·subst e;exact h3 e1 e2
  ·have:=h.2.2 j (by omega) e1 e2;omega⟩
def zt5 (c:Pc) (I:Nat->Bool) (T N:Nat->Int) (a:Nat) (x:World) (e:Ending) (w':World):Prop:=∃tm:Int,e=.returned (iV tm)/\ZB c I T N a (zi c.L c.t).length tm/\Bw x w'
theorem zrw (x:World) (a:Nat) (ok:XS c) (h:yk c I T N x) (ha:a<c.L.b.length) (hT:∀i,i<c.L.b.length->0<=T i/\T i<=1000) (hN:0<=N a/\N a<=1001) :
  Calls prog 191 #[.pointer (pA c.pb),iV a] x fun e w'=>zt5 c I T N a x e w':=by
 obtain⟨hl1,hl16⟩:=ok.len
 have hp1:=ok.p1
 have hp2:=ok.p2
 obtain⟨hec1,hec2⟩:=ok.ecap
 have HR:=z9 h
 have HT:=z9 hT
 have hpz:=h.lt
 have hnz:=h.nr.lt
 have hnc:=h.nr.cell ha
 have hai:(a:Int)<(c.L.b.length:Int):=by omega
 obtain⟨f1,f10,f11,f12,f13,f14,f15,f16⟩:=h.fields
 have HEG:=z9 (fun y (hy:Bw x y) k hk=>(h.gE hy).edge ok k hk)
 have HN:=z9 hN
 have HRS:=z9 (fun (k:Nat) (tm tm':Int)=>@ZB.step c I T N a k tm tm')
 have HST:Hid (ZB c I T N a 0 (N a)):=⟨Int.le_refl _,by omega,fun j hj=>absurd hj (Nat.not_lt_zero _)⟩
 have HEND:Hid (∀tm w',ZB c I T N a (zi c.L c.t).length tm->Bw x w'->zt5 c I T N a x (.returned (iV tm)) w'):=fun tm w' h1 h2=>⟨tm,rfl,h1,h2⟩
 obtain⟨na,hna⟩:∃na,N a=na:=⟨_,rfl⟩
 rw [hna] at hnc HST
 clear h hT hN hna
 have hes:∃es,zi c.L c.t=es:=⟨_,rfl⟩
 obtain⟨es,hes⟩:=hes
 rw [hes] at f10 HEG HEND HRS hec1
 have HES:=z9 hes
 clear hes
 go_enter func191,ntmps191
 go_wp2_with fail
 clear f1 f10 f11 f12 f13 f14 f15 f16 hnc
 go_loopw [5,20] (fun tv i wr=>∃(k:Nat) (tm:Int),k<=es.length/\i=iV k/\tv=iV tm/\ZB c I T N a k tm/\Bw x wr) (fun _ i _=>es.length - (intOf i).toNat)
 case atStart=>exact⟨0,na,Nat.zero_le _,rfl,rfl,HST.out,Below.refl _ _⟩
 case round =>
  clear HST
  obtain⟨k,tm,hk,rfl,rfl,hrp,gH⟩:=hrel
  have HRP:=z9 hrp
  have HB:=z9 gH
  have htm1:0<=tm:=by have:=hrp.1;have:=HN.out;omega
  have htm2:=hrp.2.1
  clear hrp gH
  by_cases hkl:k<es.length
  ·have hki:(k:Int)<(es.length:Int):=by omega
   obtain⟨eb,eo,hea,hebz,-,-,fr,to,bk,wt,hed,hfr,hto,hbk,hwt,c0,c1,c2,c3⟩:=HEG.out wr HB.out k hkl
   have hrw:=HR.out.gE HB.out
   have hpw:=hrw.lt
   have h3:=hrw.ir.cell hfr
   have h5:=hrw.ir.lt
   obtain⟨tf1,tf2⟩:=HT.out fr hfr
   have htt:=hrw.tr.lt
   have hfri:(fr:Int)<(c.L.b.length:Int):=by omega
   have HGAP:=z9 (fun W=>zc3 fr to bk wt c.P W hbk hwt hp1 hp2)
   have hpb1:0<=(bk:Int)*c.P:=Int.mul_nonneg (by omega) (by omega)
   have hpb2:(bk:Int)*c.P<=32*200:=Int.mul_le_mul (by omega) hp2 (by omega) (by omega)
   have HNX:Hid (∀tm',tm<=tm'->tm'<=1010->(to=a->I fr=true->T fr+((wt:Int) - (bk:Int)*c.P)<=tm')->ZB c I T N a (k+1) tm'):=fun tm' g1 g2 g3=>HRS.out k tm tm' HRP.out g1 g2 (by rw [hed];simpa [zhb] using g3)
   have gS:Hid (∀y,Bw wr y->(y.cell? (ad c.pb 11)=sI c.P/\y.cell? (ad c.pb 14)=some (.slice (pA c.tb) c.L.b.length c.L.b.length))/\y.cell? (ad c.tb fr)=sI (T fr)):=fun y hy=>by
    have hq:=hrw.gE hy
    obtain⟨f1,f10,f11,f12,f13,f14,f15,f16⟩:=hq.fields
    exact⟨⟨f11,f14⟩,hq.tr.cell hfr⟩
   obtain⟨gp,hgp⟩:∃g,(wt:Int) - (bk:Int)*c.P=g:=⟨_,rfl⟩
   rw [hgp] at HGAP HNX
   have hgb:-10000<=gp/\gp<=6:=by omega
   obtain⟨ik,hik⟩:∃ik,I fr=ik:=⟨_,rfl⟩
   obtain⟨tf,htf⟩:∃tf,T fr=tf:=⟨_,rfl⟩
   rw [hik] at h3 HNX
   rw [htf] at tf1 tf2 HNX gS
   have hwr:IntKind.i64.wrap (tf+gp)=tf+gp:=xw _ (by omega) (by omega)
   have HBOX:Hid (∀y:World,Below (wr.heap.size+1) (wr.alloc (.cells #[iV fr,iV to,iV bk,iV wt] 100)) y->y.cell? (ad wr.heap.size 0)=sI fr/\y.cell? (ad wr.heap.size 1)=sI to/\y.cell? (ad wr.heap.size 2)=sI bk/\y.cell? (ad wr.heap.size 3)=sI wt):=fun y hy=>by
    have hb:y.heap[wr.heap.size]?=some (.cells #[iV fr,iV to,iV bk,iV wt] 100 (0,0)):=(hy.block _ (by omega)).trans (zD _ _ _)
    refine⟨?_,?_,?_,?_⟩ <;> (rw [cell_of_block hb];rfl)
   have HBAL:Hid (Bw wr (wr.alloc (.cells #[iV fr,iV to,iV bk,iV wt] 100))):=below_alloc1 _ _
   have HS:Hid ((wr.alloc (.cells #[iV fr,iV to,iV bk,iV wt] 100)).heap.size=wr.heap.size+1):=by show _=_;simp
   obtain⟨f1,f10,f11,f12,f13,f14,f15,f16⟩:=hrw.fields
   clear hed hgp hik htf f1 f10 f11 f12 f14 f15 f16 hrw
   rw [hea]
   by_cases hta:to=a
   ·have htd:decide (to=a)=true:=decide_eq_true hta
    cases ik with
    | false =>
      subst hta
      go_wp2_with fail
      go_big_quiet ((fail))
      go_wp2_with fail
      go_roundw
      case rel=>exact⟨k+1,tm,by omega,by go_num,rfl,HNX.out tm (Int.le_refl _) htm2 (fun _ h=>absurd h (by simp)),(HB.out.trans (HBAL.out.mono HB.out.size)).trans (below_draws _ _ _)⟩
      case measure=>simp [intOf];omega
    | true =>
      subst hta
      go_wp2_with fail
      go_big_quiet ((fail))
      have HWD:Hid (Below (wr.heap.size+1) (wr.alloc (.cells #[iV fr,iV to,iV bk,iV wt] 100)) ((wr.alloc (.cells #[iV fr,iV to,iV bk,iV wt] 100)).drewN nq)):=below_draws _ _ _
      have HSE:Hid (∀y:World,Below (wr.heap.size+1) (wr.alloc (.cells #[iV fr,iV to,iV bk,iV wt] 100)) y->(y.cell? (ad c.pb 11)=sI c.P/\y.cell? (ad c.pb 14)=some (.slice (pA c.tb) c.L.b.length c.L.b.length))/\(y.cell? (ad c.tb fr)=sI tf)/\(y.cell? (ad wr.heap.size 0)=sI fr/\y.cell? (ad wr.heap.size 1)=sI to/\y.cell? (ad wr.heap.size 2)=sI bk/\y.cell? (ad wr.heap.size 3)=sI wt)):=fun y hy=>by
       obtain⟨g1,g2⟩:=gS.out y (HBAL.out.trans (hy.mono (by omega)))
       exact⟨g1,g2,HBOX.out y hy⟩
      go_wp2_with fail
      generalize (wr.alloc (.cells #[iV fr,iV to,iV bk,iV wt] 100)).drewN nq=W at HWD ⊢
      refine wp_region_noPanic ?_
      refine zm 99 (fun w'=>(w'.cell? (ad c.pb 11)=sI c.P/\w'.cell? (ad c.pb 14)=some (.slice (pA c.tb) c.L.b.length c.L.b.length))/\(w'.cell? (ad c.tb fr)=sI tf)/\(w'.cell? (ad wr.heap.size 0)=sI fr/\w'.cell? (ad wr.heap.size 1)=sI to/\w'.cell? (ad wr.heap.size 2)=sI bk/\w'.cell? (ad wr.heap.size 3)=sI wt)) (by kernel_rfl) (HSE.out _ (HWD.out.trans (zI _ _))) (fun h9=>?_)
      refine uk 0 h9 ?_
      refine uk 1 h9 ?_
      refine uk 2 h9 ?_
      refine uk 3 h9 ?_
      refine uk 4 h9 ?_
      refine uk 5 h9 ?_
      refine uk 6 h9 ?_
      refine uk 7 h9 ?_
      refine uk 8 h9 ?_
      refine uk 9 h9 ?_
      refine uk 10 h9 ?_
      refine uk 11 h9 ?_
      refine uk 12 h9 ?_
      refine uk 13 h9 ?_
      refine ze (i:=14) rfl (by kernel_rfl) (fun K hK=>?_)
      go_simp
      refine (HGAP.out _).mono ?_
      rintro e x1 ⟨rfl,hb1⟩
      have HB1:Hid (Below (wr.heap.size+1) (wr.alloc (.cells #[iV fr,iV to,iV bk,iV wt] 100)) x1):=HWD.out.trans ((zI _ _).trans (hb1.mono (by have:=HWD.out.size;rw [HS.out] at this;exact this)))
      have h9:=HSE.out _ HB1.out
      clear hb1
      refine nxt hK.out (.inr h9) ?_
      clear hK K
      refine uk 15 h9 ?_
      refine ze (i:=16) rfl (by kernel_rfl) (fun K hK=>?_)
      go_simp
      refine nxt hK.out (.inr h9) ?_
      clear hK K
      refine ze (i:=17) rfl (by kernel_rfl) (fun K hK=>?_)
      go_simp
      refine nxt hK.out (.inr h9) ?_
      clear hK K
      refine zq (by kernel_rfl) ?_ _
      refine NoPanic.normal ?_
      have HBX:Hid (Bw x x1):=HB.out.trans ((HBAL.out.trans (HB1.out.mono (by omega))).mono HB.out.size)
      clear h9
      go_wp2_with fail
      all_goals
       go_roundw
       case rel=>exact⟨k+1,_,by omega,by go_num,rfl,HNX.out _ (by omega) (by omega) (fun _ _=>by omega),HBX.out⟩
       case measure=>simp [intOf];omega
   ·have htd:decide (to=a)=false:=decide_eq_false hta
    have htd2:¬(to:Int)=(a:Int):=by omega
    have htd4:((to:Int) == (a:Int))=false:=beq_false_of_ne htd2
    go_wp2_with fail
    go_big_quiet ((fail))
    go_wp2_with fail
    go_roundw
    case rel=>exact⟨k+1,tm,by omega,by go_num,rfl,HNX.out tm (Int.le_refl _) htm2 (fun h=>absurd h hta),(HB.out.trans (HBAL.out.mono HB.out.size)).trans (below_draws _ _ _)⟩
    case measure=>simp [intOf];omega
  ·have e:k=es.length:=by omega
   subst e
   have hki:¬(es.length:Int)<(es.length:Int):=by omega
   have HP:=z9 (HEND.out tm wr HRP.out HB.out)
   go_wp2_with fail
   exact bodyPost_ret (v:=iV tm) (by simp [results,results191,go_sem]) rfl HP.out
end
theorem yan {y:World} {fr:Nat} {H:Nat->Int} (h:zu y g e n (fun v=>iV (H v))) (v:Int) (hf:fr<n):∃H':Nat->Int,zu (y.setCell (ad g fr) (iV v)) g e n (fun v=>iV (H' v)) :=
 ⟨fun i=>if i=fr then v else H i,(h.set fr (iV v) hf).congr fun i _=>by
  dsimp only
  by_cases e:i=fr
  ·rw [if_pos e,if_pos e]
  ·rw [if_neg e,if_neg e]⟩
theorem zj0 (n:Nat) (p:Int) (la:Option Addr) (lc:Nat) (l:List Ed) (x:World) (hE:Z8 x (.slice la l.length lc) l) (hl:∀e∈l,zek n e) (hn:n<=16) (hp1:1<=p) (hp2:p<=200) :
  Calls prog 190 #[.slice la l.length lc,iV n,iV p] x fun e w'=>e=.returned (.slice (pA x.heap.size) n n)/\Bw x w'/\∃H:Nat->Int,zu w' x.heap.size 3 n (fun v=>iV (H v)):=by
 have hmk:=run_make_row' (P:=prog) 22 3 (iV 0) 8 underlying22 Tryz.j3 rfl .i64 .i64 n (by omega) (by omega)
 have H0:Hid (zu (x.alloc (.cells (madeCells #[iV 0] n) 3)) x.heap.size 3 n (fun v=>iV 0)):=zu.zeros x _ n _
 have HB0:Hid (Bw x (x.alloc (.cells (madeCells #[iV 0] n) 3))):=below_alloc1 _ _
 obtain⟨la',lc',he1,he2,he3,hec⟩:=hE
 injection he1 with e1 e2 e3
 subst e1;subst e3
 unfold maxLen at he3
 have HEC:=z9 hec
 have HL:=z9 hl
 clear hec hl e2
 go_enter func190,ntmps190
 go_wp2_with fail
 go_loopw [13] (fun i wr=>∃r:Nat,r<=n/\i=iV r/\Bw x wr/\∃H:Nat->Int,zu wr x.heap.size 3 n (fun v=>iV (H v))) (fun i _=>n - (intOf i).toNat)
 case atStart=>exact⟨0,by omega,rfl,HB0.out,fun _=>0,H0.out⟩
 case round =>
  clear H0 HB0 hmk
  obtain⟨r,hr,rfl,gH,gI⟩:=hrel
  have HB:=z9 gH
  have gS:=z9 gI
  clear gI gH
  rename World=>wo
  by_cases hrl:r<n
  ·have hri:(r:Int)<(n:Int):=by omega
   go_wp2_with fail
   go_loopw [17] (fun i wr=>∃k:Nat,k<=l.length/\i=iV k/\Bw x wr/\∃H:Nat->Int,zu wr x.heap.size 3 n (fun v=>iV (H v))) (fun i _=>l.length - (intOf i).toNat)
   case atStart=>exact⟨0,Nat.zero_le _,rfl,HB.out,gS.out⟩
   case round =>
    clear HB gS
    obtain⟨k,hk,rfl,gH,H,gI⟩:=hrel
    have HB:=z9 gH
    have gS:=z9 gI
    by_cases hkl:k<l.length
    ·have hki:(k:Int)<(l.length:Int):=by omega
     obtain⟨eb,eo,rfl,hebz,hecell⟩:=HEC.out (by omega)
     obtain⟨c0,c1,c2,c3⟩:=ziy (hecell k hkl)
     rw [<-zf gH _ _ hebz] at c0 c1 c2 c3
     have hebz2:eb<wr.heap.size:=by have:=gH.size;omega
     obtain⟨fr,to,bk,wt,hed,hfr,hto,hbk,hwt⟩:=HL.out _ (Xl hkl)
     rw [hed] at c0 c1 c2 c3
     simp only at c0 c1 c2 c3
     have hfi:(fr:Int)<(n:Int):=by omega
     have hti:(to:Int)<(n:Int):=by omega
     have hxz:=gI.lt
     have HGAP:=z9 (fun W=>zc3 fr to bk wt p W hbk hwt hp1 hp2)
     obtain⟨gp,hgp⟩:∃g,(wt:Int) - (bk:Int)*p=g:=⟨_,rfl⟩
     rw [hgp] at HGAP
     have HRC:Hid (∀y,Bw wr y->zu y x.heap.size 3 n (fun v=>iV (H v))):=fun y hy=>gI.gE hy gI.lt
     have HHT:Hid (∀y,zu y x.heap.size 3 n (fun v=>iV (H v))->y.cell? (ad x.heap.size fr)=sI (H fr)/\y.cell? (ad x.heap.size to)=sI (H to)):=fun y hy=>⟨hy.cell hfr,hy.cell hto⟩
     obtain⟨hf,hhf⟩:∃v,H fr=v:=⟨_,rfl⟩
     obtain⟨ht,hht⟩:∃v,H to=v:=⟨_,rfl⟩
     rw [hhf,hht] at HHT
     have HBOX:Hid (∀y:World,Below (wr.heap.size+1) (wr.alloc (.cells #[iV fr,iV to,iV bk,iV wt] 100)) y->y.cell? (ad wr.heap.size 0)=sI fr/\y.cell? (ad wr.heap.size 1)=sI to/\y.cell? (ad wr.heap.size 2)=sI bk/\y.cell? (ad wr.heap.size 3)=sI wt):=fun y hy=>by
      have hb:y.heap[wr.heap.size]?=some (.cells #[iV fr,iV to,iV bk,iV wt] 100 (0,0)):=(hy.block _ (by omega)).trans (zD _ _ _)
      refine⟨?_,?_,?_,?_⟩ <;> (rw [cell_of_block hb];rfl)
     have HBAL:Hid (Bw wr (wr.alloc (.cells #[iV fr,iV to,iV bk,iV wt] 100))):=below_alloc1 _ _
     have HS:Hid ((wr.alloc (.cells #[iV fr,iV to,iV bk,iV wt] 100)).heap.size=wr.heap.size+1):=by show _=_;simp
     have HSE:Hid (∀y:World,Below (wr.heap.size+1) (wr.alloc (.cells #[iV fr,iV to,iV bk,iV wt] 100)) y->(y.cell? (ad x.heap.size fr)=sI hf/\y.cell? (ad x.heap.size to)=sI ht)/\(y.cell? (ad wr.heap.size 0)=sI fr/\y.cell? (ad wr.heap.size 1)=sI to/\y.cell? (ad wr.heap.size 2)=sI bk/\y.cell? (ad wr.heap.size 3)=sI wt)):=fun y hy=>⟨HHT.out y (HRC.out y (HBAL.out.trans (hy.mono (by omega)))),HBOX.out y hy⟩
     clear hecell hed hgp hhf hht gI gH
     go_wp2_with fail
     refine wp_region_noPanic ?_
     refine zm 19 (fun w'=>(w'.cell? (ad x.heap.size fr)=sI hf/\w'.cell? (ad x.heap.size to)=sI ht)/\(w'.cell? (ad wr.heap.size 0)=sI fr/\w'.cell? (ad wr.heap.size 1)=sI to/\w'.cell? (ad wr.heap.size 2)=sI bk/\w'.cell? (ad wr.heap.size 3)=sI wt)) (by kernel_rfl) (HSE.out _ (zI _ _)) (fun h9=>?_)
     refine uk 0 h9 ?_
     refine uk 1 h9 ?_
     refine uk 2 h9 ?_
     refine uk 3 h9 ?_
     refine uk 4 h9 ?_
     refine uk 5 h9 ?_
     refine uk 6 h9 ?_
     refine uk 7 h9 ?_
     refine uk 8 h9 ?_
     refine uk 9 h9 ?_
     refine uk 10 h9 ?_
     refine uk 11 h9 ?_
     refine uk 12 h9 ?_
     refine uk 13 h9 ?_
     refine uk 14 h9 ?_
     refine ze (i:=15) rfl (by kernel_rfl) (fun K hK=>?_)
     go_simp
     refine (HGAP.out _).mono ?_
     rintro e x1 ⟨rfl,hb1⟩
     have HB1:Hid (Below (wr.heap.size+1) (wr.alloc (.cells #[iV fr,iV to,iV bk,iV wt] 100)) x1):=(zI _ _).trans (hb1.mono (by show _<=(wr.alloc (.cells #[iV fr,iV to,iV bk,iV wt] 100)).heap.size;rw [HS.out];exact Nat.le_refl _))
     have h9:=HSE.out _ HB1.out
     clear hb1
     refine nxt hK.out (.inr h9) ?_
     clear hK K
     refine uk 16 h9 ?_
     refine ze (i:=17) rfl (by kernel_rfl) (fun K hK=>?_)
     go_simp
     refine nxt hK.out (.inr h9) ?_
     clear hK K
     refine uk 18 h9 ?_
     have HX1:=z9 (HRC.out x1 (HBAL.out.trans (HB1.out.mono (by omega))))
     have hfz:=HX1.out.frozen fr
     have hcf:=(HHT.out x1 HX1.out).1
     refine ze (i:=19) rfl (by kernel_rfl) (fun K hK=>?_)
     go_simp
     refine nxt hK.out (.inl rfl) ?_
     clear hK K
     refine zq (by kernel_rfl) ?_ _
     refine NoPanic.normal ?_
     have HBX:Hid (Bw x x1):=HB.out.trans ((HBAL.out.trans (HB1.out.mono (by omega))).mono HB.out.size)
     clear h9 hfz hcf
     go_wp2_with fail
     all_goals
      go_roundw
      case rel =>
       exact⟨k+1,by omega,by go_num,HBX.out.setCell (Nat.le_refl _) _,yan HX1.out _ hfr⟩
      case measure=>simp [intOf];omega
    ·have e:k=l.length:=by omega
     subst e
     have hki:¬(l.length:Int)<(l.length:Int):=by omega
     clear gI gH
     go_wp2_with fail
     go_roundw
     case rel=>exact⟨r+1,by omega,by go_num,HB.out,H,gS.out⟩
     case measure=>simp [intOf];omega
  ·have e:r=n:=by omega
   subst e
   have hri:¬(r:Int)<(r:Int):=by omega
   go_wp2_with fail
   exact bodyPost_ret (v:=.slice (pA x.heap.size) r r) (by simp [results,results190,go_sem]) rfl ⟨rfl,HB.out,gS.out⟩
end Go.Proofs.YtjoapiafpahihabGreat
