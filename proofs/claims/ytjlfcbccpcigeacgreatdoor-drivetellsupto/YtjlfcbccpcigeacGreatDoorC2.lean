import Derived.Test.YtjlfcbccpcigeacGreatDoorC
set_option maxHeartbeats 40000000
set_option linter.defProp false
namespace Go.Proofs.YtjlfcbccpcigeacGreatDoor
open Go.Proofs.Tryz Go.RowKit Go.Joins
set_option linter.unusedVariables false
set_option linter.unusedSimpArgs false
set_option maxRecDepth 8192
section
variable {a:Act} {M:List Nat} {i g n q b k fd:Nat} {o:Oper} {cs:Array vO} {e:TypeId} {f:Int->Int->Int} {H:Nat->Int} {lf:Bool}
section
variable {P:Program} {ops:Array Oper} {Q:Exit->Act->wO->Prop} {md:Region.Mode} {S:wO->Prop} {z:Nat}
def Xz (ops:Array Oper) (i:Nat):Option Tmp:=match ops[i]? with | some o=>o.dst | none=>none
def X9 (a:Act):List (Option Tmp × vO)->Act
 | []=>a
 | p :: l=>X9 (a.put p.1 p.2) l
theorem Ry (l:List (Option Tmp × vO)):∀(a:Act) (p:Option Tmp × vO),X9 a (l++[p])=(X9 a l).put p.1 p.2:=by induction l <;> grind [X9]
def DP (l:List (Option Tmp × vO)) (d:Option Tmp) (v:vO):∀(a:Act),(∀p∈l,∀x,d=some x->p.1≠some x)->X9 (a.put d v) l=(X9 a l).put d v:=by
 induction l with
 | nil=>intro a _;rfl
 | cons q l ih =>intro a h;show X9 ((a.put d v).put q.1 q.2) l=_;rw [Act.put_comm a v q.2 (h q (QY ..))];exact ih _ fun p b=>h p (Wg _ b)
def Rz (o:Oper) (hs:∀cs b,o.op≠.select cs b) (l:List (Option Tmp × vO)):∀(a:Act),(∀p∈l,∀d,p.1=some d->d ∉ o.looksAt ops)->execOp (X9 a l).eval o=execOp a.eval o:=by
 induction l with
 | nil=>intro a _;rfl
 | cons q l ih =>intro a h;show execOp (X9 (a.put q.1 q.2) l).eval o=_;rw [ih _ fun p c=>h p (Wg _ c),execOp_put (ops:=ops) o hs a q.1 q.2 (h q (QY ..))]
def RA (o:Oper) (l:List (Option Tmp × vO)):∀(a:Act),(∀p∈l,∀d,p.1=some d->d ∉ o.looksAt ops)->Region.wanted o (yielded ops (X9 a l).tmps)=Region.wanted o (yielded ops a.tmps):=by
 induction l with
 | nil=>intro a _;rfl
 | cons q l ih =>intro a h;show Region.wanted o (yielded ops (X9 (a.put q.1 q.2) l).tmps)=_;rw [ih _ fun p b=>h p (Wg _ b),wanted_put o a q.1 q.2 (h q (QY ..))]
def RB {l g:List (Option Tmp × vO)} (h:l.Perm g):l.Pairwise (fun p q=>∀x,p.1=some x->q.1≠some x)->∀a:Act,X9 a l=X9 a g:=by
 induction h with
 | nil=>intro _ a;rfl
 | cons p _ ih=>intro b a;exact ih (EU.1 b).2 _
 | swap p q l =>intro b a;show X9 ((a.put q.1 q.2).put p.1 p.2) l=X9 ((a.put p.1 p.2).put q.1 q.2) l;rw [Act.put_comm a q.2 p.2 ((EU.1 b).1 p (QY ..))]
 | trans h1 k d f =>intro b a;rw [d b a];refine f (h1.pairwise b fun {p q} c x j i=>c x i j) a
def RC (o:Oper) (hs:∀cs b,o.op≠.select cs b) (l:List (Option Tmp × vO)) (t:∀p∈l,∀d,p.1=some d->d ∉ o.looksAt ops) (k:∀p∈l,∀x,o.dst=some x->p.1≠some x) (s:∀c a w,¬Q (.panic c) a w) {K:Act->wO->Prop} {w:wO}
  (h:Oper.wp P o a w (fun a' w'=>∃v,a'=a.put o.dst v/\K ((X9 a l).put o.dst v) w') Q):Oper.wp P o (X9 a l) w K Q:=by
 unfold Oper.wp at *
 rw [Rz (ops:=ops) o hs l a t];generalize (execOp a.eval o).run P w=r at *
 have key:∀(u:vO) (w':wO),(∃v,a.put o.dst u=a.put o.dst v/\K ((X9 a l).put o.dst v) w')->K ((X9 a l).put o.dst u) w':=fun u w' ⟨v,j,q⟩=>by
  have e:(X9 a l).put o.dst u=(X9 a l).put o.dst v:=by rw [<-DP l o.dst u a k,<-DP l o.dst v a k,j]
  rw [e];exact q
 cases r with
 | ok n w' =>
  cases n <;> simp only [Oper.upon] at h ⊢
  case value u=>exact key u w' h
  case skip=>exact key _ w' h
  case defer d =>obtain⟨v,j,q⟩:=h;exfalso;have h1:=congrArg Act.defers j;cases g:o.dst <;> (rw [g] at h1;simp [Act.put] at h1)
  case enter f args =>
   refine Calls.m h fun e i m=>?_;grind
  case row row args=>exact Rows.mono h fun u i m=>key u i m
 | halt x w' =>
  cases x <;> simp only [Oper.upon] at h ⊢
  case panic u=>exact absurd h (s _ _ _)
def ri (md:Region.Mode) (ops:Array Oper) (fin:Array Bool):Nat->Array Bool->List Nat->Bool
 | 0,gV,rem=>rem.isEmpty && gV == fin
 | n+1,gV,rem=>(Region.ready md ops gV == rem) && rem.all fun i=>ri md ops fin n (gV.setIfInBounds i true) (rem.erase i)
def DQ (P:Program) (ops:Array Oper) (Q:Exit->Act->wO->Prop) (S:wO->Prop) (R:Nat->vO->wO->Prop) (Ap:vO->vO->Prop) (M:List Nat) (a:Act) (i:Nat):Prop :=
 ∃ o,ops[i]?=some o/\(∀cs b,o.op≠.select cs b)/\Region.wanted o (yielded ops a.tmps)/\(∀j∈M,j≠i->∀d,Xz ops j=some d->d ∉ o.looksAt ops/\o.dst≠some d) /\
   ∀w,S w->∀K:Act->wO->Prop,(∀v w',S w'->Bw w w'->R i v w'->(∀j∈M,∀u,R j u w->Ap u v)->K (a.put o.dst v) w')->Oper.wp P o a w K Q
def RD (R:Nat->vO->wO->Prop) (y:vO->vO->Prop) (cE:∀u v,y u v->y v u) (M:List Nat) (fin:Array Bool) {r:Nat} (hQ:∀c a w,¬Q (.panic c) a w) (U:M.Nodup)
  (X:∀i∈M,∀v w w',R i v w->Bw w w'->R i v w') (L:∀i∈M,DQ P ops Q S R y M a i)
  (bY:∀(val:Nat->vO) (w:wO),S w->(∀i∈M,R i (val i) w)->(∀i∈M,∀j∈M,i≠j->y (val i) (val j))->YX P md ops Q S z r fin (X9 a (M.map fun i=>(Xz ops i,val i))) w) :
  ∀ (n:Nat) (g h:List Nat) (val:Nat->vO) (A:Array Bool) (w:wO),g.length=n->(h++g).Perm M->ri md ops fin n A g->S w->(∀i∈h,R i (val i) w)->(∀i∈h,∀j∈h,i≠j->y (val i) (val j)) ->
    YX P md ops Q S z (r+n) A (X9 a (h.map fun i=>(Xz ops i,val i))) w:=by
 intro n
 induction n with
 | zero =>
   intro g h val A w H l hr hS hR hA
   obtain rfl:g=[]:=Wi.1 H
   rw [WJ] at l
   unfold ri at hr
   have e:A=fin:=by simpa using hr
   subst e
   have dL:h.Nodup:=l.nodup_iff.2 U
   have cA:(h.map fun i=>(Xz ops i,val i)).Pairwise (fun p q=>∀x,p.1=some x->q.1≠some x):=by
    rw [List.pairwise_map]
    refine List.Pairwise.imp_of_mem ?_ dL
    intro i j hi b F x K hy
    obtain⟨o,D,_,_,C,_⟩:=L j (l.mem_iff.1 b)
    have h1:=(C i (l.mem_iff.1 hi) F x K).2
    have h2:Xz ops j=o.dst:=by unfold Xz;rw [D]
    grind
   rw [RB (l.map _) cA]
   exact bY val w hS (fun i hi=>hR i (l.mem_iff.2 hi)) (fun i hi j b=>hA i (l.mem_iff.2 hi) j (l.mem_iff.2 b))
 | succ n ih =>
   intro g h val A w H l hr hS hR hA
   unfold ri at hr
   rw [Qg] at hr
   have W:Region.ready md ops A=g:=by simpa using hr.1
   refine⟨fun h0=>?_,fun i hi=>?_⟩
   ·grind
   ·rw [W] at hi
    have cB:=EN.1 hr.2 i hi
    have dV:i∈M:=l.mem_iff.1 (WZ _ hi)
    obtain⟨o,D,cC,hw,C,dM⟩:=L i dV
    have cx:(h++g).Nodup:=l.nodup_iff.2 U
    have s:∀j∈h,j≠i:=fun j b e=>by
     subst e
     exact (List.nodup_append.1 cx).2.2 j b j hi rfl
    have bV:Xz ops i=o.dst:=by unfold Xz;rw [D]
    have O:∀p∈h.map (fun j=>(Xz ops j,val j)),∀d,p.1=some d->d ∉ o.looksAt ops:=fun p t d hd=>by
     obtain⟨j,b,rfl⟩:=WV.1 t
     exact (C j (l.mem_iff.1 (Wz _ b)) (s j b) d hd).1
    have dN:∀p∈h.map (fun j=>(Xz ops j,val j)),∀x,o.dst=some x->p.1≠some x:=fun p t x K I=>by
     obtain⟨j,b,rfl⟩:=WV.1 t
     exact (C j (l.mem_iff.1 (Wz _ b)) (s j b) x I).2 K
    unfold wpOp
    simp only [D]
    rw [RA o _ a O,hw,Qf rfl]
    refine .inl (RC (ops:=ops) o cC _ O dN hQ (dM w hS _ fun v w' N hb hv B=>⟨v,rfl,.inr N,?_⟩))
    have cD:∀j∈h,(fun j=>if j=i then v else val j) j=val j:=fun j b=>by
     dsimp only;rw [Qe (s j b)]
    have bT:(X9 a (h.map fun j=>(Xz ops j,val j))).put o.dst v=X9 a ((h++[i]).map fun j=>(Xz ops j,(fun j=>if j=i then v else val j) j)):=by
     rw [QV]
     show _=X9 a (_++[(Xz ops i,if i=i then v else val i)])
     rw [Ry,Qf rfl,bV]
     congr 2
     exact Et fun j b=>by rw [cD j b]
    rw [bT]
    refine ih (g.erase i) (h++[i]) _ _ w' (by rw [List.length_erase_of_mem hi,H];rfl) ?_ cB N (fun j b=>?_) (fun j b k V G=>?_)
    ·refine List.Perm.trans ?_ l
     rw [Wr]
     exact List.Perm.append_left _ (List.perm_cons_erase hi).symm
    ·rcases QK.1 b with b | b
     ·rw [Qe (s j b)]
      exact X j (l.mem_iff.1 (Wz _ b)) _ w w' (hR j b) hb
     ·obtain rfl:j=i:=by simpa using b
      rw [Qf rfl]
      exact hv
    ·have T:∀j∈h,y (val j) v:=fun j b=>B j (l.mem_iff.1 (Wz _ b)) _ (hR j b)
     rcases QK.1 b with m | m
     ·rw [Qe (s j m)]
      rcases QK.1 V with f | f
      ·rw [Qe (s k f)]
       exact hA j m k f G
      ·obtain rfl:k=i:=by simpa using f
       rw [Qf rfl]
       exact T j m
     ·obtain rfl:j=i:=by simpa using m
      rw [Qf rfl]
      rcases QK.1 V with f | f
      ·rw [Qe (s k f)]
       exact cE _ _ (T k f)
      ·obtain rfl:k=j:=by simpa using f
       lia
def uA (ops:Array Oper) (M:List Nat) (i:Nat):Bool:=match ops[i]? with
 | some o=>M.all fun j=>j == i || (match Xz ops j with | some d=>!(o.looksAt ops).contains d && !(o.dst == some d) | none=>true)
 | none=>false
def RE (h:uA ops M i) (a:ops[i]?=some o):∀j∈M,j≠i->∀d,Xz ops j=some d->d ∉ o.looksAt ops/\o.dst≠some d:=by grind [uA]
def oH {R:Nat->vO->wO->Prop} {d:vO->vO->Prop} {rest:List Oper} (c:ops.toList.drop i=o :: rest) (hs:Region.noSelect ops) (k:Region.wanted o (yielded ops a.tmps)) (g:uA ops M i)
  (h:∀w,S w->∀K:Act->wO->Prop,Shut (∀v w',S w'->Bw w w'->R i v w'->(∀j∈M,∀u,R j u w->d u v)->K (a.put o.dst v) w')->Oper.wp P o a w K Q):DQ P ops Q S R d M a i :=
 ⟨o,YK c,fun cs b=>qd hs i o cs b (YK c),k,RE g (YK c),fun w hS K f=>h w hS K f⟩
end
section
structure Pc where
 w0:wO
 L:Lp
 t:Tg
 P:Int
 pb:Nat
 hb:Nat
 ib:Nat
 tb:Nat
 nb:Nat
 mb:Nat
 v0:vO
 v2:vO
 bb:Nat
 bo:Nat
 bc:Nat
 ea:Option Addr
 ec:Nat
 H:Nat->Int
def rj (c:Pc):Array vO :=
 #[c.v0,.slice (some (E c.bb c.bo)) c.L.b.length c.bc,c.v2,J c.t.u0,J c.t.u1,J c.t.u2,J c.t.w0,J c.t.w1,J c.t.w2,J c.t.r,.slice c.ea (zf c.L c.t).length c.ec,J c.P,
   .slice (pA c.hb) c.L.b.length c.L.b.length,.slice (pA c.ib) c.L.b.length c.L.b.length,.slice (pA c.tb) c.L.b.length c.L.b.length,.slice (pA c.nb) c.L.b.length c.L.b.length,.map (some c.mb)]
structure U0 (c:Pc):Prop where
 may:zQ c.L
 mayt:zS c.t
 p1:1<=c.P
 p2:c.P<=200
 hbb:c.bb<c.w0.heap.size
 bcap:c.L.b.length<=c.bc
 bmax:c.bc<=9223372036854775807
 body:∀i,i<c.L.b.length->∀j,j<9->c.w0.cell? (E c.bb (c.bo+i*9+j))=(zG (zc c.L.b i))[j]?
 edges:ZD c.w0 (.slice c.ea (zf c.L c.t).length c.ec) (zf c.L c.t)
theorem U0.len {c:Pc} (h:U0 c):1<=c.L.b.length/\c.L.b.length<=16:=⟨(zy h.may).2.1,(zy h.may).2.2.1⟩
def U0.edok {c:Pc} (h:U0 c):∀e∈zf c.L c.t,kt c.L.b.length e:=fun e g=>by
 obtain⟨fr,to,bk,wt,h0,h1,a,i,d,f⟩:=ZW h.may e g
 exact⟨fr,to,bk,wt,h0,h1,a,f,d⟩
structure yp (c:Pc) (I:Nat->Bool) (T N:Nat->Int) (x:wO):Prop where
 bel:Below c.w0.heap.size c.w0 x
 pl:x.heap[c.pb]?=some (.cells (rj c) 264 (0,0))
 hr:zr x c.hb 3 c.L.b.length (fun i=>J (c.H i))
 ir:zr x c.ib 4 c.L.b.length (fun i=>.bool (I i))
 tr:zr x c.tb 3 c.L.b.length (fun i=>J (T i))
 nr:zr x c.nb 3 c.L.b.length (fun i=>J (N i))
 ge:c.w0.heap.size<=c.pb/\c.w0.heap.size<=c.hb/\c.w0.heap.size<=c.ib/\c.w0.heap.size<=c.tb/\c.w0.heap.size<=c.nb/\c.w0.heap.size<=c.mb
 ne:c.hb≠c.tb/\c.hb≠c.nb/\c.tb≠c.nb
variable {c:Pc} {I:Nat->Bool} {T N:Nat->Int} {x y:wO}
def yp.lt (h:yp c I T N x):c.pb<x.heap.size:=(lo h.pl)
def yp.same (h:yp c I T N x) (hb:Below c.w0.heap.size x y) (b:y.heap[c.pb]?=x.heap[c.pb]?) (a:y.heap[c.hb]?=x.heap[c.hb]?) (hi:y.heap[c.ib]?=x.heap[c.ib]?) (d:y.heap[c.tb]?=x.heap[c.tb]?) (hn:y.heap[c.nb]?=x.heap[c.nb]?):yp c I T N y where
 bel:=h.bel.t hb
 pl:=b.t h.pl
 hr:=h.hr.gG a
 ir:=h.ir.gG hi
 tr:=h.tr.gG d
 nr:=h.nr.gG hn
 ge:=h.ge
 ne:=h.ne
def yp.gE (h:yp c I T N x) (hb:Bw x y):yp c I T N y:=by have a:=h.hr;exact h.same (hb.m h.bel.size) (hb.block _ h.lt) (hb.block _ a.lt) (hb.block _ h.ir.lt) (hb.block _ h.tr.lt) (hb.block _ h.nr.lt)
def uB {a:TypeId} {f:Nat->vO} {R:Nat} (h:x.heap[R]?=some (.cells cs e (0,0))) (hr:zr x g a n f) (b:e≠a):R≠g:=by grind [zr]
def Z1 {k:Nat->vO} (h:xr f q b x) (hr:zr x g e n k):g≠b:=by intro d;subst d;obtain⟨D,⟨i,a,hb,_⟩,_,_⟩:=h;obtain⟨c',c,_,_⟩:=hr;rw [hb] at c;have h1:=QD c;cases h1
def RF {z:Nat × Nat} (h:xr f q b x) (hr:x.heap[g]?=some (.cells cs e z)):g≠b:=by intro c;subst c;obtain⟨D,⟨d,a,hb,_⟩,_,_⟩:=h;rw [hb] at hr;have h1:=QD hr;cases h1
def yp.mne (h:yp c I T N x) (a:xr f q c.mb x):c.pb≠c.mb/\c.hb≠c.mb/\c.ib≠c.mb/\c.tb≠c.mb/\c.nb≠c.mb:=by have b:=h.hr;exact⟨RF a h.pl,Z1 a b,Z1 a h.ir,Z1 a h.tr,Z1 a h.nr⟩
def yp.grown (h:yp c I T N x) (a:c.pb≠c.mb/\c.hb≠c.mb/\c.ib≠c.mb/\c.tb≠c.mb/\c.nb≠c.mb) (d:x.grownBy y (some c.mb)):yp c I T N y:=by have f:=h.hr;have hs:∀g,g<x.z->g≠c.mb->y.heap[g]?=x.heap[g]?:=fun g b i=>d.block g b sA;exact h.same ((QA _ _).grown d h.bel.size fun k j=>by have:=QD j;have:=h.ge.2.2.2.2.2;lia) (hs _ h.lt a.1) (hs _ f.lt a.2.1) (hs _ h.ir.lt a.2.2.1) (hs _ h.tr.lt a.2.2.2.1) (hs _ h.nr.lt a.2.2.2.2)
def UF:(4:TypeId)≠3:=tQ
def DR:(264:TypeId)≠3:=tQ
def RG:(264:TypeId)≠4:=tQ
def yp.setIn (h:yp c I T N x) (a:Nat) (f:a<c.L.b.length) (b:Bool):yp c (bX I a b) T N (x.setCell (E c.ib a) (.bool b)):=by
 have d:=h.hr;have hb:Below c.w0.z x (x.st c.ib a (.bool b)):=(QA _ _).setCell h.ge.2.2.1 _;have g:c.pb≠c.ib:=uB h.pl h.ir RG;refine⟨h.bel.t hb,by rw [Qj _ _ _ _ g];exact h.pl,d.gF (h.ir.apart d UF).s _,(h.ir.set a (.bool b) f).congr fun i _=>?_,h.tr.gF (h.ir.apart h.tr UF).s _,h.nr.gF (h.ir.apart h.nr UF).s _,h.ge,h.ne⟩;simp [bX]
def yp.setT (h:yp c I T N x) (a:Nat) (f:a<c.L.b.length) (v:Int):yp c I (b9 T a v) N (x.setCell (E c.tb a) (J v)):=by
 have d:=h.hr;have hb:Below c.w0.z x (x.st c.tb a (J v)):=(QA _ _).setCell h.ge.2.2.2.1 _;have g:c.pb≠c.tb:=uB h.pl h.tr DR;refine⟨h.bel.t hb,by rw [Qj _ _ _ _ g];exact h.pl,d.gF h.ne.1 _,h.ir.gF (h.ir.apart h.tr UF) _,(h.tr.set a (J v) f).congr fun i _=>?_,h.nr.gF h.ne.2.2.s _,h.ge,h.ne⟩;grind [b9]
def yp.setN (h:yp c I T N x) (a:Nat) (f:a<c.L.b.length) (v:Int):yp c I T (b9 N a v) (x.setCell (E c.nb a) (J v)):=by
 have d:=h.hr;have hb:Below c.w0.z x (x.st c.nb a (J v)):=(QA _ _).setCell h.ge.2.2.2.2.1 _;have g:c.pb≠c.nb:=uB h.pl h.nr DR;refine⟨h.bel.t hb,by rw [Qj _ _ _ _ g];exact h.pl,d.gF h.ne.2.1 _,h.ir.gF (h.ir.apart h.nr UF) _,h.tr.gF h.ne.2.2 _,(h.nr.set a (J v) f).congr fun i _=>?_,h.ge,h.ne⟩;grind [b9]
def yp.fields (h:yp c I T N x):x.cell? (E c.pb 1)=some (.slice (some (E c.bb c.bo)) c.L.b.length c.bc)/\x.cell? (E c.pb 10)=some (.slice c.ea (zf c.L c.t).length c.ec)/\x.cell? (E c.pb 11)=Y c.P/\x.cell? (E c.pb 12)=some (.slice (pA c.hb) c.L.b.length c.L.b.length)/\x.cell? (E c.pb 13)=some (.slice (pA c.ib) c.L.b.length c.L.b.length)/\x.cell? (E c.pb 14)=some (.slice (pA c.tb) c.L.b.length c.L.b.length)/\x.cell? (E c.pb 15)=some (.slice (pA c.nb) c.L.b.length c.L.b.length)/\x.cell? (E c.pb 16)=some (.map (some c.mb)):=by refine⟨?_,?_,?_,?_,?_,?_,?_,?_⟩ <;> (rw [Qa h.pl];rfl)
def yp.unit (h:yp c I T N x) (a:Nat) (b:a<3):x.cell? (E c.pb (3+a))=Y (yf c.t a):=by
 rw [Qa h.pl];obtain rfl | rfl | rfl:a=0\/a=1\/a=2:=lI
 all_goals rfl
def yp.stmt (h:yp c I T N x) (ok:U0 c) (a:Nat) (d:a<c.L.b.length):c.bb<x.heap.size/\∀j,j<9->x.cell? (E c.bb (c.bo+a*9+j))=(zG (zc c.L.b a))[j]? :=
 ⟨Qu ok.hbb h.bel.size,fun j f=>(ze h.bel _ _ ok.hbb).t (ok.body a d j f)⟩
def yp.edge (h:yp c I T N x) (ok:U0 c) (k:Nat) (i:k<(zf c.L c.t).length):∃a d,c.ea=some (E a d)/\a<x.heap.size/\(zf c.L c.t).length<=c.ec/\c.ec<=9223372036854775807/\∃fr to bk wt:Nat,zJ (zf c.L c.t) k=⟨fr,to,bk,wt⟩/\fr<c.L.b.length/\to<c.L.b.length/\bk<=32/\wt<=6 /\
  x.cell? (E a (d+k*4))=Y fr/\x.cell? (E a (d+k*4+1))=Y to/\x.cell? (E a (d+k*4+2))=Y bk/\x.cell? (E a (d+k*4+3))=Y wt:=by obtain⟨A,B,m,C,q,r⟩:=ok.edges;injection m with e1 e2 e3;obtain⟨a,d,z,g,n⟩:=r lI;obtain⟨s,u,v,y⟩:=nU (n k i);obtain⟨fr,to,bk,wt,f,j,p,l,o⟩:=ok.edok _ (Vb i);rw [f] at s u v y;unfold maxLen at q;refine⟨a,d,e1.t z,Qu g h.bel.size,lI,lI,fr,to,bk,wt,f,j,p,l,o,?_,?_,?_,?_⟩ <;> rw [ze h.bel _ _ g] <;> assumption
def U0.ecap (h:U0 c):(zf c.L c.t).length<=c.ec/\c.ec<=9223372036854775807:=by obtain⟨d,f,a,i,b,g⟩:=h.edges;injection a with e1 e2 e3;unfold maxLen at b;lia
end
section
variable {c:Pc} {I:Nat->Bool} {T N:Nat->Int}
def DS (x:wO) (a:Nat) (ok:U0 c) (h:yp c I T N x) (G:a<c.L.b.length) (h0:0<=T a) (h1:T a<=1000) :
  Cp 234 #[.pointer (pA c.pb),J a] x (Rt x (.agg #[J (ye (zc c.L.b a).o),J ((T a).tmod c.P)])):=by
 have Q:=ok.p1;have O:=ok.p2;have dI:=ok.bcap;have dJ:=ok.bmax;have bU:(a:Int)<(c.L.b.length:Int):=oM
 have hlen:=ok.len;have f:=Z (fun W=>sJ (zc c.L.b a).o (zc c.L.b a).xa (zc c.L.b a).xb (zc c.L.b a).ya (zc c.L.b a).yb (zc c.L.b a).ar (zc c.L.b a).sp (zc c.L.b a).pl (zc c.L.b a).nn (T a) c.P W h0 oM Q O);have R:=Z h;have bK:=h.lt;have k:Hid (∀y,yp c I T N y->(y.c c.tb a=Y (T a))/\∀j,j<9->y.c c.bb (c.bo+a*9+j)=(zG (zc c.L.b a))[j]?):=fun y m=>⟨m.tr.cell G,(m.stmt ok a G).2⟩;obtain⟨tm,F⟩:=nm (T a);rw [F] at f k h0 h1 ⊢;obtain⟨l,t⟩:=nm (ye (zc c.L.b a).o);rw [t] at f ⊢;obtain⟨n,u⟩:=nm (tm.tmod c.P);rw [u] at f ⊢;generalize zc c.L.b a=xk at f k;obtain⟨o,xa,xb,ya,yb,ar,sp,pl,nn⟩:=xk;simp only at f;have D:Hid (∀y,Bw x y->(y.c c.pb 1=some (vE c.bb c.bo c.L.b.length c.bc)/\y.c c.pb 11=Y c.P/\y.c c.pb 14=some (vP c.tb c.L.b.length c.L.b.length))/\(y.c c.tb a=Y tm)/\(y.c c.bb (c.bo+a*9)=Y o/\y.c c.bb (c.bo+a*9+1)=Y xa/\y.c c.bb (c.bo+a*9+2)=Y xb/\y.c c.bb (c.bo+a*9+3)=Y ya/\y.c c.bb (c.bo+a*9+4)=Y yb/\y.c c.bb (c.bo+a*9+5)=Y ar/\y.c c.bb (c.bo+a*9+6)=Y sp/\y.c c.bb (c.bo+a*9+7)=Y pl/\y.c c.bb (c.bo+a*9+8)=Y nn)):=fun y m=>by have hr:=R.gE m;obtain⟨p,U,q,V,X,r,f15,f16⟩:=hr.fields;obtain⟨k1,k2⟩:=k y hr;exact⟨⟨p,q,r⟩,k1,Ue k2⟩
 have A:Hid (Bw x (x.alloc (Ib 0 0 318))):=Qd _ _;have HS:Hid ((x.alloc (Ib 0 0 318)).heap.size=x.heap.size+1):=by show _=_;simp
 have H:Hid ((x.alloc (Ib 0 0 318)).heap[x.heap.size]?=some (Ib 0 0 318)):=zm _ _ _;clear h k t F u;go_enter func234,ntmps234;go_wp2;refine rh 20 D (A.t (zL _ _)) fun s=>?_;refine aq 0 ?_;refine aq 2 ?_;refine aq 4 ?_;refine aq 6 ?_;refine aq 8 ?_;refine aq 10 ?_;refine aq 12 ?_;refine aq 14 ?_;refine aq 16 ?_;refine uk 18 ?_;refine uo 19 fun K i=>?_;go_simp;refine (f _).mr fun d C=>?_;have B:Hid (Below (x.heap.size+1) (x.alloc (Ib 0 0 318)) d):=(zL _ _).t (C.m sM);have z:Hid (Bw x d):=A.t (B.m oM);have s:=D _ z;have g:Hid (d.heap[x.heap.size]?=some (Ib 0 0 318)):=(B.block _ oM).t H;clear C;refine bq i.o (.inr s) ?_;clear i K;have n0:d.c x.heap.size 0=Y 0:=cb g
 have n1:d.c x.z 1=Y 0:=cb g
 have S:d.frozen? (E x.z 0)=false:=qZ g.o
 have p:d.frozen? (E x.z 1)=false:=qZ g.o
 refine uo 20 fun K i=>?_;go_simp;refine bq i.o (.inl rfl) ?_;clear i K;refine rd ?_;clear s n0 n1 S p;obtain⟨s0,s1⟩:=Yr (a':=J l) (b':=J n) g;have M:Hid (Bw x ((d.st x.z 0 (J l)).setCell (E x.z 1) (J n))):=(z.setCell (Qc _) _).setCell (Qc _) _;generalize (d.setCell (E x.z 0) (J l)).setCell (E x.z 1) (J n)=W at *
 go_wp2;exact bodyPost_ret (v:=.agg #[J l,J n]) (by simp [results,results234,go_sem,s0,s1]) rfl ⟨rfl,M⟩
def RH (x:wO) (a q:Nat) (tm:Int) (f:Int->Int->Int) (ok:U0 c) (h:yp c I T N x) (hM:xr f q c.mb x) (ha:a<c.L.b.length) (h0:0<=tm) (h1:tm<=1000) :
  Cp 233 #[.pointer (pA c.pb),J a,J tm] x (Rt x (.bool (decide (f (ye (zc c.L.b a).o) (tm.tmod c.P)=yf c.t (ye (zc c.L.b a).o))))):=by
 have aG:=ok.p1;have aD:=ok.p2;have dI:=ok.bcap;have dJ:=ok.bmax;have bU:(a:Int)<(c.L.b.length:Int):=by omega
 have hlen:=ok.len;have s:=Z (fun W=>sJ (zc c.L.b a).o (zc c.L.b a).xa (zc c.L.b a).xb (zc c.L.b a).ya (zc c.L.b a).yb (zc c.L.b a).ar (zc c.L.b a).sp (zc c.L.b a).pl (zc c.L.b a).nn tm c.P W h0 (by omega) aG aD);have H:=Z h;have bK:=h.lt;have G:Hid (∀y,yp c I T N y->∀j,j<9->y.c c.bb (c.bo+a*9+j)=(zG (zc c.L.b a))[j]?):=fun y m=>(m.stmt ok a ha).2;obtain⟨d,S,aY⟩:=qm (zc c.L.b a).o;rw [S] at s ⊢;have cu:=ER c.P h0;have cw:=WL tm (show 0<c.P by omega);obtain⟨k,U⟩:=nm (tm.tmod c.P);rw [U] at s cu cw ⊢;have de:Hid (∀y,Bw x y->y.c c.pb (3+d)=Y (yf c.t d)):=fun y m=>(H.gE m).unit d aY;obtain⟨un,dB⟩:=nm (yf c.t (d:Int));rw [dB] at de ⊢;have V:Hid (∀y,Bw x y->(Instr.lookup 262 (.map (some c.mb)) (.agg #[J d,J k]) false).run prog y=.ok (J (f d k)) y):=fun y m=>(hM.gE m).look d k (Uq _ (by omega) (by omega)) (Uq _ (by omega) oM);obtain⟨fv,X⟩:=nm (f (d:Int) k);rw [X] at V ⊢;generalize zc c.L.b a=xk at s G;obtain⟨o,xa,xb,ya,yb,ar,sp,pl,nn⟩:=xk;simp only at s;have dh:(d:Int)<3:=oM
 have z:Hid (∀y,Bw x y->(y.c c.pb 1=some (vE c.bb c.bo c.L.b.length c.bc)/\y.c c.pb 11=Y c.P)/\(y.c c.bb (c.bo+a*9)=Y o/\y.c c.bb (c.bo+a*9+1)=Y xa/\y.c c.bb (c.bo+a*9+2)=Y xb/\y.c c.bb (c.bo+a*9+3)=Y ya/\y.c c.bb (c.bo+a*9+4)=Y yb/\y.c c.bb (c.bo+a*9+5)=Y ar/\y.c c.bb (c.bo+a*9+6)=Y sp/\y.c c.bb (c.bo+a*9+7)=Y pl/\y.c c.bb (c.bo+a*9+8)=Y nn)):=fun y m=>by have hr:=H.gE m;obtain⟨O,f10,Q,f12,f13,f14,f15,f16⟩:=hr.fields;exact⟨⟨O,Q⟩,Ue (G y hr)⟩
 have dF:Hid (∀y,Bw x y->y.c c.pb 16=some (.map (some c.mb))):=fun y m=>(H.gE m).fields.2.2.2.2.2.2.2;clear h hM G S U dB X;go_enter func233,ntmps233;go_wp2;refine rh 15 z (zL _ _) fun v=>?_;refine aq 0 ?_;refine aq 2 ?_;refine aq 4 ?_;refine aq 6 ?_;refine aq 8 ?_;refine aq 10 ?_;refine uk 12 ?_;refine Xp (i:=13) (j:=14) rfl rfl kR (fun K l=>?a1) (fun K l=>?a2)
 case' a1 =>
  go_simp;refine (s _).mr fun g p=>?_;have n:Hid (Bw x g):=(zL _ _).t p;have v:=z _ n;have B:x.heap.size<=g.heap.size:=n.size;clear p;refine bq l.o (.inr v) ?_;clear l K;have A:=z _ (n.alloc B (Ib 0 0 318));refine uo 14 fun K l=>?_;go_simp;refine bq l.o (.inr A) ?_;clear l K;refine uo 15 fun K l=>?_;go_simp;refine bq l.o (.inl rfl) ?_;clear l K;refine rd ?_;clear v A;have F:Hid (Bw x (g.alloc (Ib d k 318))):=n.alloc B _;have cZ:Hid ((g.alloc (Ib d k 318)).heap[g.heap.size]?=some (Ib d k 318)):=zm _ _ _;have D:Hid (∀y,Below (g.alloc (Ib d k 318)).heap.size (g.alloc (Ib d k 318)) y->y.c g.heap.size 0=Y d/\y.c g.heap.size 1=Y k):=fun y m=>by have hb:=(m.block g.heap.size sM).t cZ;exact⟨cb hb,cb hb⟩
  clear cZ n;generalize (g.alloc (Ib d k 318))=W at *
  generalize r:g.heap.size=R at *
  clear r
 case' a2 =>
  go_simp;have M:Bw x (x.drew.alloc (Ib 0 0 318)):=(zL _ _).alloc (Qc _) _;have gY:=z _ M;refine bq l.o (.inr gY) ?_;clear l K;refine uo 13 fun K l=>?_;go_simp;refine (s _).mr fun g p=>?_;have cN:Hid ((x.drew.alloc (Ib 0 0 318)).heap[x.heap.size]?=some (Ib 0 0 318)):=zm x.drew _ _;have C:x.heap.size+1<=(x.drew.alloc (Ib 0 0 318)).heap.size:=sM
  have u:Hid (g.heap[x.heap.size]?=some (.cells #[J 0,J 0] 318 (0,0))):=(p.block _ (Qu (QF _) C)).t cN;have n:Hid (Bw x g):=M.t (p.m (QH (Ep _) C));have A:=z _ n;have B:x.heap.size+1<=g.heap.size:=QH C p.size;clear p M v C;refine bq l.o (.inr A) ?_;clear l K;have n0:g.cell? (E x.heap.size 0)=Y 0:=cb u
  have n1:g.cell? (E x.heap.size 1)=Y 0:=cb u
  have f0:g.frozen? (E x.heap.size 0)=false:=by simp [World.frozen?,u.o]
  have O:g.frozen? (E x.heap.size 1)=false:=by simp [World.frozen?,u.o]
  refine uo 15 fun K l=>?_;go_simp;refine bq l.o (.inl rfl) ?_;clear l K;refine rd ?_;clear gY A n0 n1 f0 O;have F:Hid (Bw x ((g.setCell (E x.heap.size 0) (J d)).setCell (E x.heap.size 1) (J k))):=(n.setCell (Qc _) _).setCell (Qc _) _;have D:Hid (∀y,Below ((g.setCell (E x.heap.size 0) (J d)).setCell (E x.heap.size 1) (J k)).heap.size ((g.setCell (E x.heap.size 0) (J d)).setCell (E x.heap.size 1) (J k)) y->y.cell? (E x.heap.size 0)=Y d/\y.cell? (E x.heap.size 1)=Y k):=fun y m=>by obtain⟨s0,s1⟩:=Yr (a':=J d) (b':=J k) u;exact⟨(ze m _ _ sO).t s0,(ze m _ _ sO).t s1⟩
  clear cN u n B;generalize ((g.setCell (E x.heap.size 0) (J d)).setCell (E x.heap.size 1) (J k))=W at *
  generalize r:x.heap.size=R at D ⊢;clear r
 all_goals
  have dH:Hid (∀y,Bw W y->(y.cell? (E c.pb 16)=some (.map (some c.mb)))/\(y.cell? (E R 0)=Y d/\y.cell? (E R 1)=Y k)/\y.cell? (E c.pb (3+d))=Y un/\(Instr.lookup 262 (.map (some c.mb)) (.agg #[J d,J k]) false).run prog y=.ok (J fv) y):=fun y m=>by
   have hb:=F.tm m
   exact⟨dF y hb,D y m,de y hb,V y hb⟩
  go_wp2
  refine rh 99 dH (zL _ _) fun v=>?_
  refine aq 0 ?_
  refine aq 2 ?_
  refine aq 4 ?_
  refine aq 6 ?_
  refine aq 8 ?_
  refine aq 10 ?_
  refine aq 12 ?_
  refine aq 14 ?_
  refine rd ?_
  have aQ:Hid (Bw x W.drew):=F.drew
  clear v
  go_wp2
  go_ret
  exact⟨by first | rfl | simp,aQ⟩
def RI (x:wO) (a q:Nat) (f:Int->Int->Int) (ok:U0 c) (h:yp c I T N x) (hM:xr f q c.mb x) (hq:q<1000000) (F:a<c.L.b.length) (h0:0<=T a) (h1:T a<=1000) (hf:∀s r,-1000000<=f s r/\f s r<=1000000) :
  Cp 236 #[.pointer (pA c.pb),J a] x fun e w'=>e=.returned (.tuple #[])/\yp c (bX I a false) T N w'/\xr (fun s r=>if s=ye (zc c.L.b a).o/\r=(T a).tmod c.P then f s r - 1 else f s r) (q+1) c.mb w':=by
 have aG:=ok.p1;have hlen:=ok.len;have bU:(a:Int)<(c.L.b.length:Int):=by omega
 obtain⟨f1,u,v,z,A,B,C,D⟩:=h.fields;have bZ:=h.ir.frozen a;have dW:=h.ir.cell F;have bK:=h.lt;have eq:=h.ir.lt;have l:Hid (yp c (bX I a false) T N (x.setCell (E c.ib a) (.bool false))):=h.setIn a F false;have V:Hid (xr f q c.mb (x.setCell (E c.ib a) (.bool false))):=hM.gG (Qj _ _ _ _ (Z1 hM h.ir).s);have p:=Z (fun W (hW:yp c (bX I a false) T N W)=>DS W a ok hW F h0 h1);obtain⟨d,G,aY⟩:=qm (zc c.L.b a).o;rw [G] at p ⊢;have cu:=ER c.P h0;have cw:=WL (T a) (show 0<c.P by omega);have aD:=ok.p2;obtain⟨g,H⟩:=nm ((T a).tmod c.P);rw [H] at p cu cw ⊢;obtain⟨dQ,dR⟩:=hf d g;have O:Hid (∀y,xr f q c.mb y->(Instr.lookup 262 (.map (some c.mb)) (.agg #[J d,J g]) false).run prog y=.ok (J (f d g)) y):=fun y j=>j.look d g (Uq _ (by omega) (by omega)) (Uq _ (by omega) (by omega));have M:Hid (∀y,xr f q c.mb y->_):=fun y (j:xr f q c.mb y)=>j.step (by unfold maxLen;omega) d g (Uq _ oM oM) (Uq _ oM oM) (f d g - 1) (Uq _ oM oM);have U:Hid (∀s r,(fun c' r'=>if c'=(d:Int)/\r'=g then f d g - 1 else f c' r') s r=(fun s r=>if s=(d:Int)/\r=g then f s r - 1 else f s r) s r):=fun s r=>by
  dsimp only;by_cases e:s=(d:Int)/\r=g
  ·simp_all
  omega
 obtain⟨fv,S⟩:=nm (f (d:Int) g);rw [S] at O M U dQ dR;have ek:IntKind.i64.wrap (fv - 1)=fv - 1:=xG _ oM oM;clear G H S hf;go_enter func236,ntmps236;go_wp2;clear f1 u v z A B C D dW bZ;generalize x.setCell (E c.ib a) (.bool false)=y0 at *
 have R:Hid (∀y,Bw y0 y->(y.cell? (E c.pb 16)=some (.map (some c.mb)))/\(Instr.lookup 262 (.map (some c.mb)) (.agg #[J d,J g]) false).run prog y=.ok (J fv) y):=fun y j=>⟨(l.gE j).fields.2.2.2.2.2.2.2,O y (V.gE j)⟩;refine rh 11 R (zL _ _) fun k=>?_;refine aq 0 ?_;refine aq 2 ?_;refine aq 4 ?_;refine uo 6 fun K i=>?_;go_simp;refine (p _ (l.gE (zL _ _))).m ?_;rintro e x1 ⟨rfl,Q⟩;have m:Hid (Bw y0 x1):=(zL _ _).t Q;have k:=R _ m;clear Q;have n:=Z (V.gE m);have t:=Z (l.gE m);obtain⟨ve,stp,w1,e1,e2,e3,w3,g1,g2,g3⟩:=M _ n;refine bq i.o (.inr k) ?_;clear i K;refine aq 7 ?_;have X:Hid (yp c (bX I a false) T N w1):=t.grown (t.mne n) e2;have dG:Hid (yp c (bX I a false) T N w3):=X.grown (t.mne n) g2;have dE:=Z (g3.congr U);clear g2 g3 e2;have H1:Hid ((w1.cell? (E c.pb 16)=some (.map (some c.mb)))/\(Instr.lookup 262 (.map (some c.mb)) (.agg #[J d,J g]) false).run prog w1=.ok (J fv) w1):=⟨X.fields.2.2.2.2.2.2.2,e3⟩;refine uo 9 fun K i=>?_;go_simp;have k:=H1;refine bq i.o (.inr k) ?_;clear i K;refine uk 10 ?_;refine uo 11 fun K i=>?_;go_simp;refine bq i.o (.inl rfl) ?_;clear i K;refine rd ?_;clear k e1 g1;go_wp2;go_end0;exact⟨rfl,dG,dE⟩
end
section
variable {c:Pc} {I:Nat->Bool} {T N:Nat->Int}
def DT (c:Pc) (I:Nat->Bool) (x:wO) (e:Ending) (w':wO):Prop:=∃(fd:Nat) (lf:Bool),e=.returned (.tuple #[J fd,.bool lf])/\fd<c.L.b.length/\(lf=false->∀j,j<c.L.b.length->I j)/\(lf->I fd=false)/\VF c.H I c.L.b.length=(fd,lf)/\Bw x w'
def DU {I:Nat->Bool} (h:VF H I k=(fd,lf)) (h1:I k\/(lf/\¬H fd<H k)):VF H I (k+1)=(fd,lf):=by grind [VF]
def DV {I:Nat->Bool} (h:VF H I k=(fd,lf)) (h1:I k=false) (a:lf=false\/H fd<H k):VF H I (k+1)=(k,true):=by grind [VF]
def RJ (x:wO) (ok:U0 c) (h:yp c I T N x) :
  Cp 193 #[.pointer (pA c.pb)] x fun e w'=>DT c I x e w':=by
 obtain⟨dX,cg⟩:=ok.len;have W:=Z h;have bK:=h.lt;obtain⟨G,f,g,s,t,l,m,n⟩:=h.fields;clear h;go_enter func193,ntmps193;go_wp2;clear G f g s t l m n;go_loopw [4,5,13] (fun fv lv i wr=>∃(k fd:Nat) (lf:Bool),k<=c.L.b.length/\i=J k/\fv=J fd/\lv=.bool lf/\fd<c.L.b.length/\(lf=false->∀j,j<k->I j)/\(lf->I fd=false)/\VF c.H I k=(fd,lf)/\Bw x wr) (fun _ _ i _=>c.L.b.length - (intOf i).toNat)
 case atStart=>exact⟨0,0,false,Ql _,rfl,rfl,rfl,oM,fun _ j U=>absurd U (Qv _),fun h=>absurd h sM,rfl,QA _ _⟩
 obtain⟨k,fd,lf,hk,rfl,rfl,rfl,y,R,K,Q,S⟩:=hrel;have r:=Z Q;clear Q;have o:=Z S;have P:=Z R;have u:=Z K;clear R K S;by_cases d:k<c.L.b.length
 ·have X:(k:Int)<(c.L.b.length:Int):=oM
  have dS:(fd:Int)<(c.L.b.length:Int):=oM
  have q:=W.gE o;obtain⟨G,f,g,s,t,l,m,n⟩:=q.fields;have cA:=q.lt;have z:=q.hr;have h1:=z.cell d;have h2:=z.cell y;have h3:=q.ir.cell d;have h4:=z.lt;have h5:=q.ir.lt;obtain⟨ik,D⟩:=nm (I k);obtain⟨F,C⟩:=nm (c.H k);obtain⟨A,B⟩:=nm (c.H fd);rw [D] at h3;rw [C] at h1;rw [B] at h2;have p:=Z D;have O:=Z C;have M:=Z B;clear D C B z q G f g l m n;cases ik with
  | true =>
   go_wp2;go_big_quiet ((fail));go_wp2;go_roundw
   case rel =>
    refine⟨k+1,fd,lf,oM,nQ,rfl,rfl,y,fun h j U=>?_,u,DU r (.inl p),o.t (Qm _ _ _)⟩;by_cases e:j=k
    ·rw [e];exact p
    exact P h j oM
   simp [intOf];omega
  | false =>
   cases lf with
   | false =>
    go_wp2;go_big_quiet ((fail));go_wp2;go_roundw
    case rel=>exact⟨k+1,k,true,oM,nQ,rfl,rfl,d,fun h=>absurd h sM,fun _=>p,DV r p (.inl rfl),o.t (Qm _ _ _)⟩
    simp [intOf];omega
   | true =>
    by_cases a:A<F
    ·have dU:decide (A<F):=Qi a;go_wp2;go_big_quiet ((fail));go_wp2;go_roundw
     case rel=>exact⟨k+1,k,true,oM,nQ,rfl,rfl,d,fun h=>absurd h sM,fun _=>p,DV r p (.inr (by rw [M,O];exact a)),o.t (Qm _ _ _)⟩
     simp [intOf];omega
    have dU:decide (A<F)=false:=Qk a;have v:=Z a;go_wp2;go_big_quiet ((fail));go_wp2;go_roundw
    case rel=>exact⟨k+1,fd,true,oM,nQ,rfl,rfl,y,fun h=>absurd h sM,fun _=>by first | exact u rfl | exact u trivial,DU r (.inr ⟨rfl,by rw [M,O];have:=v;omega⟩),o.t (Qm _ _ _)⟩
    simp [intOf];omega
 have e:k=c.L.b.length:=oM
 subst e;have X:¬(c.L.b.length:Int)<(c.L.b.length:Int):=oM
 have V:Hid (DT c I x (.returned (.tuple #[J fd,.bool lf])) wr):=⟨fd,lf,rfl,y,P,u,r,o⟩;go_wp2;exact oB V
def mE (c:Pc) (I:Nat->Bool) (T N:Nat->Int) (a k:Nat) (tm:Int):Prop:=N a<=tm/\tm<=1010/\∀j,j<k->(zJ (zf c.L c.t) j).to.toNat=a->I (zJ (zf c.L c.t) j).fr.toNat->T (zJ (zf c.L c.t) j).fr.toNat+js c.P (zJ (zf c.L c.t) j)<=tm
def mE.step {a:Nat} {tm b:Int} (h:mE c I T N a k tm) (h1:tm<=b) (d:b<=1010) (f:(zJ (zf c.L c.t) k).to.toNat=a->I (zJ (zf c.L c.t) k).fr.toNat->T (zJ (zf c.L c.t) k).fr.toNat+js c.P (zJ (zf c.L c.t) k)<=b):mE c I T N a (k+1) b :=by grind [mE]
def Xt (c:Pc) (I:Nat->Bool) (T N:Nat->Int) (a k:Nat) (tm:Int):Prop:=mE c I T N a k tm/\tm=mP (zf c.L c.t) c.P I T N a k
def Xt.step {a k:Nat} {tm b:Int} (h:Xt c I T N a k tm) (h1:tm<=b) (g:b<=1010) (i:(zJ (zf c.L c.t) k).to.toNat=a->I (zJ (zf c.L c.t) k).fr.toNat->T (zJ (zf c.L c.t) k).fr.toNat+js c.P (zJ (zf c.L c.t) k)<=b/\b=max tm (T (zJ (zf c.L c.t) k).fr.toNat+js c.P (zJ (zf c.L c.t) k)))
  (j:¬((zJ (zf c.L c.t) k).to.toNat=a/\I (zJ (zf c.L c.t) k).fr.toNat)->b=tm):Xt c I T N a (k+1) b:=by
 refine⟨h.1.step h1 g fun d f=>(i d f).1,?_⟩;show b=if _ then _ else _
 rw [<-h.2];grind
def DW (c:Pc) (I:Nat->Bool) (T N:Nat->Int) (a:Nat) (x:wO) (e:Ending) (w':wO):Prop:=∃tm:Int,e=.returned (J tm)/\Xt c I T N a (zf c.L c.t).length tm/\Bw x w'
def RK (x:wO) (a:Nat) (ok:U0 c) (h:yp c I T N x) (ha:a<c.L.b.length) (hT:∀i,i<c.L.b.length->0<=T i/\T i<=1000) (hN:0<=N a/\N a<=1001) :
  Cp 232 #[.pointer (pA c.pb),J a] x fun e w'=>DW c I T N a x e w':=by
 obtain⟨dX,cg⟩:=ok.len;have aG:=ok.p1;have aD:=ok.p2;obtain⟨bW,dP⟩:=ok.ecap;have HR:=Z h;have HT:=Z hT;have bK:=h.lt;have er:=h.nr.lt;have dt:=h.nr.cell ha;have bU:(a:Int)<(c.L.b.length:Int):=oM
 obtain⟨O,f,l,p,A,m,q,r⟩:=h.fields;have cG:=Z (fun y (u:Bw x y) k hk=>(h.gE u).edge ok k hk);have HN:=Z hN;have cY:=Z (fun (k:Nat) (tm d:Int)=>@Xt.step c I T N a k tm d);have U:Hid (Xt c I T N a 0 (N a)):=⟨⟨QR _,oM,fun j hj=>absurd hj (Qv _)⟩,rfl⟩;have aU:Hid (∀tm w',Xt c I T N a (zf c.L c.t).length tm->Bw x w'->DW c I T N a x (.returned (J tm)) w'):=fun tm w' h1 h2=>⟨tm,rfl,h1,h2⟩;obtain⟨na,dr⟩:=nm (N a);rw [dr] at dt U;clear h hT hN dr;have D:∃o,zf c.L c.t=o:=⟨_,rfl⟩;obtain⟨o,D⟩:=D;rw [D] at f cG aU cY bW;have em:=Z D;clear D;go_enter func232,ntmps232;go_wp2;clear O f l p A m q r dt;go_loopw [5,20] (fun tv i wr=>∃(k:Nat) (tm:Int),k<=o.length/\i=J k/\tv=J tm/\Xt c I T N a k tm/\Bw x wr) (fun _ i _=>o.length - (intOf i).toNat)
 case atStart=>exact⟨0,na,Ql _,rfl,rfl,U,QA _ _⟩
 clear U;obtain⟨k,tm,hk,rfl,rfl,M,gH⟩:=hrel;have cX:=Z M;have B:=Z gH;have eh:0<=tm:=by have:=M.1.1;have:=HN.o;omega
 have bE:=M.1.2.1;clear M gH;by_cases v:k<o.length
 ·have bC:(k:Int)<(o.length:Int):=oM
  obtain⟨eb,eo,dO,ay,-,-,fr,to,bk,wt,R,S,bN,aX,bF,c0,c1,c2,c3⟩:=cG wr B k v;have z:=HR.gE B;have cA:=z.lt;have h3:=z.ir.cell S;have h5:=z.ir.lt;obtain⟨tf1,tf2⟩:=HT fr S;have ey:=z.tr.lt;have dT:(fr:Int)<(c.L.b.length:Int):=oM
  have au:=Z (fun W=>pF fr to bk wt c.P W aX bF aG aD);have dY:0<=(bk:Int)*c.P:=Ws oM oM;have dZ:(bk:Int)*c.P<=32*200:=Wy oM aD oM oM;have C:Hid (∀d,tm<=d->d<=1010->(to=a->I fr->T fr+((wt:Int) - (bk:Int)*c.P)<=d/\d=max tm (T fr+((wt:Int) - (bk:Int)*c.P)))->(¬(to=a/\I fr)->d=tm)->Xt c I T N a (k+1) d):=fun d V X g3 g4=>cY k tm d cX V X (by rw [R];exact g3) (by rw [R];exact g4);have gS:Hid (∀y,Bw wr y->(y.c c.pb 11=Y c.P/\y.cell? (E c.pb 14)=some (vP c.tb c.L.b.length c.L.b.length))/\y.cell? (E c.tb fr)=Y (T fr)):=fun y u=>by have hq:=z.gE u;obtain⟨O,f,l,p,A,m,q,r⟩:=hq.fields;exact⟨⟨l,m⟩,hq.tr.cell S⟩
  obtain⟨Q,aR⟩:∃g,(wt:Int) - (bk:Int)*c.P=g:=⟨_,rfl⟩;rw [aR] at au C;have ep:-10000<=Q/\Q<=6:=oM
  obtain⟨ik,aS⟩:=nm (I fr);obtain⟨tf,dy⟩:=nm (T fr);rw [aS] at h3 C;rw [dy] at tf1 tf2 C gS;have ek:IntKind.i64.wrap (tf+Q)=tf+Q:=xG _ oM oM;have aI:Hid (∀y:wO,Below (wr.heap.size+1) (wr.alloc (.cells #[J fr,J to,J bk,J wt] 98)) y->y.cell? (E wr.heap.size 0)=Y fr/\y.cell? (E wr.heap.size 1)=Y to/\y.cell? (E wr.heap.size 2)=Y bk/\y.cell? (E wr.heap.size 3)=Y wt):=fun y u=>by have hb:y.heap[wr.heap.size]?=some (.cells #[J fr,J to,J bk,J wt] 98 (0,0)):=(u.block _ oM).t (zm _ _ _);refine⟨?_,?_,?_,?_⟩ <;> (rw [Qa hb];rfl)
  have H:Hid (Bw wr (wr.alloc (Id fr to bk wt 98))):=Qd _ _;have HS:Hid ((wr.alloc (Id fr to bk wt 98)).heap.size=wr.heap.size+1):=by show _=_;simp
  obtain⟨O,f,l,p,A,m,q,r⟩:=z.fields;clear R aR aS dy O f l p m q r z;rw [dO];by_cases n:to=a
  ·have ee:decide (to=a):=Qi n;cases ik with
   | false =>
    subst n;go_wp2;go_big_quiet ((fail));go_wp2;go_roundw
    case rel=>exact⟨k+1,tm,oM,nQ,rfl,C tm (QR _) bE (fun _ h=>absurd h sM) (fun _=>rfl),(B.tm H).t (Qm _ _ _)⟩
    simp [intOf];omega
   | true =>
    subst n;go_wp2;go_big_quiet ((fail));have G:Hid (Below (wr.heap.size+1) (wr.alloc (Id fr to bk wt 98)) ((wr.alloc (Id fr to bk wt 98)).drewN nq)):=Qm _ _ _;have ah:Hid (∀y:wO,Below (wr.heap.size+1) (wr.alloc (Id fr to bk wt 98)) y->(y.c c.pb 11=Y c.P/\y.c c.pb 14=some (vP c.tb c.L.b.length c.L.b.length))/\(y.c c.tb fr=Y tf)/\(y.c wr.heap.size 0=Y fr/\y.c wr.heap.size 1=Y to/\y.c wr.heap.size 2=Y bk/\y.c wr.heap.size 3=Y wt)):=fun y u=>by obtain⟨V,X⟩:=gS y (H.t (u.m oM));exact⟨V,X,aI y u⟩
    go_wp2;generalize (wr.alloc (Id fr to bk wt 98)).drewN nq=W at G ⊢;refine rh 99 ah (G.t (zL _ _)) fun F=>?_;apply aq 0;apply aq 2;apply aq 4;apply aq 6;apply aq 8;apply aq 10;apply aq 12;refine uo 14 fun K s=>?_;go_simp;refine (au _).mr fun x1 ac=>?_;have ab:Hid (Below (wr.heap.size+1) (wr.alloc (Id fr to bk wt 98)) x1):=G.t ((zL _ _).t (ac.m (by have:=G.size;rw [HS] at this;exact this)));have F:=ah _ ab;clear ac;apply bq s.o (.inr F);clear s K;apply uk 15;refine uo 16 fun K s=>?_;go_simp;apply bq s.o (.inr F);clear s K;refine uo 17 fun K s=>?_;go_simp;apply bq s.o (.inr F);clear s K;refine rd ?_;have aM:Hid (Bw x x1):=B.tm (H.t (ab.m oM));clear F;go_wp2
    all_goals
     go_roundw
     case rel=>exact⟨k+1,_,oM,nQ,rfl,C _ oM oM (fun _ _=>⟨oM,oM⟩) (fun h=>absurd sM h),aM⟩
     case measure=>simp [intOf];omega
  have ee:decide (to=a)=false:=Qk n;have cF:¬(to:Int)=(a:Int):=oM
  have ef:((to:Int) == (a:Int))=false:=Wf cF;go_wp2;go_big_quiet ((fail));go_wp2;go_roundw
  case rel=>exact⟨k+1,tm,oM,nQ,rfl,C tm (QR _) bE (fun h=>absurd h n) (fun _=>rfl),(B.tm H).t (Qm _ _ _)⟩
  simp [intOf];omega
 have e:k=o.length:=oM
 subst e;have bC:¬(o.length:Int)<(o.length:Int):=oM
 have HP:=Z (aU tm wr cX B);go_wp2;go_ret;exact HP
end
def RL {y:wO} {fr:Nat} (h:zr y g e n (fun v=>J (H v))) (v:Int) (a:fr<n):zr (y.setCell (E g fr) (J v)) g e n (fun i=>J (b9 H fr v i)) :=
 (h.set fr (J v) a).congr fun i _=>by
  grind [b9]
def RM (n:Nat) (p:Int) (la:Option Addr) (lc:Nat) (l:List Ed) (x:wO) (hE:ZD x (.slice la l.length lc) l) (hl:∀e∈l,kt n e) (hn:n<=16) (aG:1<=p) (aD:p<=200) :
  Cp 231 #[.slice la l.length lc,J n,J p] x fun e w'=>e=.returned (.slice (pA x.heap.size) n n)/\Bw x w'/\zr w' x.heap.size 3 n (fun v=>J (hF p l n v)):=by
 have bJ:=run_make_row' (P:=prog) 34 3 (J 0) 8 underlying34 Tryz.j3 rfl .i64 .i64 n oM oM;have Q:Hid (zr (x.alloc (.cells (madeCells #[J 0] n) 3)) x.heap.size 3 n (fun v=>J 0)):=zr.zeros x _ n _;have S:Hid (Bw x (x.alloc (.cells (madeCells #[J 0] n) 3))):=Qd _ _;obtain⟨la',lc',aZ,di,bf,bg⟩:=hE;injection aZ with e1 e2 e3;subst e1;subst e3;unfold maxLen at bf;have dC:=Z bg;have HL:=Z hl;clear bg hl e2;go_enter func231,ntmps231;go_wp2;go_loopw [13] (fun i wr=>∃r:Nat,r<=n/\i=J r/\Bw x wr/\zr wr x.heap.size 3 n (fun v=>J (hF p l r v))) (fun i _=>n - (intOf i).toNat)
 case atStart=>exact⟨0,oM,rfl,S,Q⟩
 clear Q S bJ;obtain⟨r,hr,rfl,c,a⟩:=hrel;have f:=Z c;have h:=Z a;clear a c;rename wO=>wo;by_cases hrl:r<n
 ·have ed:(r:Int)<(n:Int):=oM
  go_wp2;go_loopw [17] (fun i wr=>∃k:Nat,k<=l.length/\i=J k/\Bw x wr/\zr wr x.heap.size 3 n (fun v=>J (mO p l (hF p l r) k v))) (fun i _=>l.length - (intOf i).toNat)
  case atStart=>exact⟨0,Ql _,rfl,f,h⟩
  clear f h;obtain⟨k,hk,rfl,c,a⟩:=hrel;obtain⟨H,O⟩:=nm (mO p l (hF p l r) k);rw [O] at a;have cJ:=Z O;clear O;have f:=Z c;have h:=Z a;by_cases j:k<l.length
  ·have bC:(k:Int)<(l.length:Int):=(by omega);obtain⟨eb,eo,rfl,ay,U⟩:=dC oM;obtain⟨F,G,I,L⟩:=nU (U k j);rw [<-ze c _ _ ay] at F G I L;have dj:eb<wr.heap.size:=(by have:=c.size;omega);obtain⟨fr,to,bk,wt,t,R,bN,aX,bF⟩:=HL _ (Vb j);rw [t] at F G I L;simp only at F G I L;have dS:(fr:Int)<(n:Int):=(by omega);have eu:(to:Int)<(n:Int):=(by omega);have eA:=a.lt;have X:=Z (fun W=>pF fr to bk wt p W aX bF aG aD);obtain⟨N,A⟩:∃g,(wt:Int) - (bk:Int)*p=g:=⟨_,rfl⟩;rw [A] at X;have cW:Hid (∀y,Bw wr y->zr y x.heap.size 3 n (fun v=>J (H v))):=fun y b=>a.gE b a.lt;have D:Hid (∀y,zr y x.heap.size 3 n (fun v=>J (H v))->y.cell? (E x.heap.size fr)=Y (H fr)/\y.cell? (E x.heap.size to)=Y (H to)):=fun y b=>⟨b.cell R,b.cell bN⟩;obtain⟨o,u⟩:∃v,H fr=v:=⟨_,rfl⟩;obtain⟨q,M⟩:∃v,H to=v:=⟨_,rfl⟩;rw [u,M] at D;have cO:Hid (∀v,v=max o (wrap64 (q+N))->mO p l (hF p l r) (k+1)=b9 H fr v):=fun v hv=>by show Ao p (zJ l k) (mO p l (hF p l r) k)=_;rw [cJ,t,hv,<-u,<-M,<-A];rfl
   have aI:Hid (∀y:wO,Below (wr.heap.size+1) (wr.alloc (.cells #[J fr,J to,J bk,J wt] 98)) y->y.cell? (E wr.heap.size 0)=Y fr/\y.cell? (E wr.heap.size 1)=Y to/\y.cell? (E wr.heap.size 2)=Y bk/\y.cell? (E wr.heap.size 3)=Y wt):=fun y b=>by have hb:y.heap[wr.heap.size]?=some (.cells #[J fr,J to,J bk,J wt] 98 (0,0)):=(b.block _ oM).t (zm _ _ _);refine⟨?_,?_,?_,?_⟩ <;> (rw [Qa hb];rfl)
   have C:Hid (Bw wr (wr.alloc (Id fr to bk wt 98))):=Qd _ _;have HS:Hid ((wr.alloc (Id fr to bk wt 98)).heap.size=wr.heap.size+1):=(by show _=_;simp);have V:Hid (∀y:wO,Below (wr.heap.size+1) (wr.alloc (Id fr to bk wt 98)) y->(y.c x.heap.size fr=Y o/\y.c x.heap.size to=Y q)/\(y.c wr.heap.size 0=Y fr/\y.c wr.heap.size 1=Y to/\y.c wr.heap.size 2=Y bk/\y.c wr.heap.size 3=Y wt)):=fun y b=>⟨D y (cW y (C.t (b.m oM))),aI y b⟩;clear U t A u M a c;go_wp2;refine rh 19 V (zL _ _) fun m=>?_;apply aq 0;apply aq 2;apply aq 4;apply aq 6;apply aq 8;apply aq 10;apply aq 12;apply uk 14;refine uo 15 fun K d=>?_;go_simp;refine (X _).mr fun s T=>?_;have B:Hid (Below (wr.heap.size+1) (wr.alloc (Id fr to bk wt 98)) s):=(zL _ _).t (T.m sM);have m:=V _ B;clear T;apply bq d.o (.inr m);clear d K;apply uk 16;refine uo 17 fun K d=>?_;go_simp;apply bq d.o (.inr m);clear d K;apply uk 18;have z:=Z (cW s (C.t (B.m oM)));have bZ:=z.frozen fr;have dK:=(D s z).1;refine uo 19 fun K d=>?_;go_simp;apply bq d.o (.inl rfl);clear d K;refine rd ?_;have aM:Hid (Bw x s):=f.tm (C.t (B.m oM));clear m bZ dK;go_wp2
   all_goals
    go_roundw
    case rel =>
     exact⟨k+1,oM,nQ,aM.setCell (Qc _) _,(RL z _ R).congr fun i _=>by first | (rw [cO (if o<wrap64 (q+N) then wrap64 (q+N) else o) oM];done) | (rw [cO _ rfl];done)⟩
    case measure=>simp [intOf];omega
  have e:k=l.length:=oM
  subst e;have bC:¬(l.length:Int)<(l.length:Int):=oM
  clear a c;go_wp2;go_roundw
  case rel=>exact⟨r+1,oM,nQ,f,by rw [<-cJ] at h;exact h⟩
  simp [intOf];omega
 have e:r=n:=oM
 subst e;have ed:¬(r:Int)<(r:Int):=oM
 go_wp2;go_ret;exact ⟨rfl,f,h⟩
end
section
variable {L:Lp} {t:Tg} {x A wr y:wO} {k:Nat}
structure kM (L:Lp) (t:Tg) (x A:wO) (k:Nat) (wr:wO):Prop where
 bel:Below (x.heap.size+1+1+1) A wr
 blk:∃la lc,wr.heap[(x.heap.size+1+1+1)]?=some (.cells #[J 0,.slice la k lc] 110 (0,0))/\wr.ownsRow (x.heap.size+1+1+1+1) 3 1 (.slice la k lc) k ((List.range k).map fun i=>J (xR L t i))
def R4 (w:wO) (x:vO) (t:TypeId):∀(j:Nat) (u:vO),[x][j]?=some u->(w.alloc (.cells #[x] t)).cell? (((E w.heap.size 0):Addr).add j)=some u:=by
 intro j u b;have a:((E w.z 0):Addr).add j=(E w.z j):=by simp [Addr.add];lia
 simp_all
def R5 (f:Nat->vO) (k:Nat):(List.range k).map f++[f k]=(List.range (k+1)).map f:=by rw [Wn,QV];rfl
def kM.gE (h:kM L t x A k wr) (hA:A.heap.size<=wr.heap.size) (hb:Bw wr y) (a:(x.heap.size+1+1+1)<wr.heap.size):kM L t x A k y:=by obtain⟨c,d,h1,b⟩:=h.blk;exact⟨h.bel.t (hb.m (Q7 a)),c,d,(hb.block _ a).t h1,zp b hb⟩
def kM.next {w1:wO} {a la':Option Addr} {b lc':Nat} (h:kM L t x A k wr) (f:(x.heap.size+1+1+1)<wr.heap.size) (hb:Bw wr y) (u:wr.heap[(x.heap.size+1+1+1)]?=some (.cells #[J 0,.slice a k b] 110 (0,0))) (z:wr.ownsRow (x.heap.size+1+1+1+1) 3 1 (.slice a k b) k ((List.range k).map fun i=>J (xR L t i)))
  (m:w1.ownsRow (x.heap.size+1+1+1+1) 3 1 (.slice la' (k+1) lc') (k+1) ((List.range k).map (fun i=>J (xR L t i))++[J (xR L t k)])) (n:y.grownBy w1 (Value.ownBlock (.slice a k b))):kM L t x A (k+1) (w1.setCell (E ((x.heap.size+1+1+1)) 1) (.slice la' (k+1) lc'))/\w1.heap[(x.heap.size+1+1+1)]?=some (.cells #[J 0,.slice a k b] 110 (0,0)):=by
 have C:=zR z;have j:(x.z+1+1+1)<y.z:=Qu f hb.size;have l:w1.heap[(x.z+1+1+1)]?=some (.cells #[J 0,.slice a k b] 110 (0,0)):=by rw [n.block _ j (fun e=>rQ),hb.block _ f];exact u
 have s:Below (x.z+1+1+1) A w1:=((h.bel.t (hb.m (Q7 f))).grown n (Q7 j) fun q D=>rQ);refine⟨⟨s.setCell (Qc _) _,la',lc',?_,?_⟩,l⟩
 ·simp [World.setCell,QC,l]
 rw [R5 (fun i=>J (xR L t i)) k] at m;obtain⟨v,d⟩:=m;refine⟨v,?_⟩;rcases d with d | ⟨g,cap,c,B,o,p,r⟩
 ·exact .inl d
 exact .inr ⟨g,cap,c,B,o,by rw [Qj _ _ _ _ (show g≠(x.z+1+1+1) by lia)];exact p,r⟩
def uG (L:Lp) (t:Tg) (gU:Int) (x:wO) (e:Ending) (w':wO):Prop:=Bw x w'/\∃g tc,e=.returned (.agg #[J (max gU (xU L t)),.slice (pA g) L.b.length tc])/\x.heap.size<=g/\zM w' (.slice (pA g) L.b.length tc) (Xl L t)
def D5 (T:Tg) (L:Lp) (v0 v2:vO) (bb bo bc:Nat) (n:Int) (x:wO) (hm:zQ L) (K:zS T) (bH:1<=n) (bI:n<=200) (hbb:bb<x.heap.size) (bS:L.b.length<=bc) (bT:bc<=9223372036854775807) (gQ:∀i,i<L.b.length->∀j,j<9->x.cell? (E bb (bo+i*9+j))=(zG (zc L.b i))[j]?) :
  Cp 93 #[.agg #[v0,.slice (some (E bb bo)) L.b.length bc,v2],.agg #[.int .i64 T.u0,.int .i64 T.u1,.int .i64 T.u2,.int .i64 T.w0,.int .i64 T.w1,.int .i64 T.w2,.int .i64 T.r],.int .i64 n] x fun e w'=>uG L T n x e w':=by
 obtain⟨-,bV,bG,-⟩:=zy hm;obtain⟨i0,hi,bO,bP,bQ⟩:=info_parts Tryz.j3;have aS:=Z (QJ x (.cells #[v0,.slice (some (E bb bo)) L.b.length bc,v2] 62) (.cells #[.int .i64 T.u0,.int .i64 T.u1,.int .i64 T.u2,.int .i64 T.w0,.int .i64 T.w1,.int .i64 T.w2,.int .i64 T.r] 27) (.cells #[.int .i64 0,.slice none 0 0] 110));have aK:Hid ((((x.alloc (.cells #[v0,.slice (some (E bb bo)) L.b.length bc,v2] 62)).alloc (.cells #[.int .i64 T.u0,.int .i64 T.u1,.int .i64 T.u2,.int .i64 T.w0,.int .i64 T.w1,.int .i64 T.w2,.int .i64 T.r] 27)).alloc (.cells #[.int .i64 0,.slice none 0 0] 110)).heap.size=(x.heap.size+1+1+1)):=by show _=_;simp
 have bz:Hid ((((x.alloc (.cells #[v0,.slice (some (E bb bo)) L.b.length bc,v2] 62)).alloc (.cells #[.int .i64 T.u0,.int .i64 T.u1,.int .i64 T.u2,.int .i64 T.w0,.int .i64 T.w1,.int .i64 T.w2,.int .i64 T.r] 27)).alloc (.cells #[.int .i64 0,.slice none 0 0] 110)).heap[x.heap.size+1+1]?=some (.cells #[.int .i64 0,.slice none 0 0] 110 (0,0))):=by
  show _=_;have e:((x.alloc (.cells #[v0,.slice (some (E bb bo)) L.b.length bc,v2] 62)).alloc (.cells #[.int .i64 T.u0,.int .i64 T.u1,.int .i64 T.u2,.int .i64 T.w0,.int .i64 T.w1,.int .i64 T.w2,.int .i64 T.r] 27)).heap.size=x.heap.size+1+1:=by simp
  grind [zm]
 have aC:Hid ((((x.alloc (.cells #[v0,.slice (some (E bb bo)) L.b.length bc,v2] 62)).alloc (.cells #[.int .i64 T.u0,.int .i64 T.u1,.int .i64 T.u2,.int .i64 T.w0,.int .i64 T.w1,.int .i64 T.w2,.int .i64 T.r] 27)).alloc (.cells #[.int .i64 0,.slice none 0 0] 110)).heap[x.heap.size+1]?=some (.cells #[.int .i64 T.u0,.int .i64 T.u1,.int .i64 T.u2,.int .i64 T.w0,.int .i64 T.w1,.int .i64 T.w2,.int .i64 T.r] 27 (0,0))):=by
  show _=_;rw [Qr _ _ _ (by simp)];have e:(x.alloc (.cells #[v0,.slice (some (E bb bo)) L.b.length bc,v2] 62)).heap.size=x.heap.size+1:=by simp
  grind [zm]
 have aL:Hid (kM L T x (((x.alloc (.cells #[v0,.slice (some (E bb bo)) L.b.length bc,v2] 62)).alloc (.cells #[.int .i64 T.u0,.int .i64 T.u1,.int .i64 T.u2,.int .i64 T.w0,.int .i64 T.w1,.int .i64 T.w2,.int .i64 T.r] 27)).alloc (.cells #[.int .i64 0,.slice none 0 0] 110)) 0 ((((x.alloc (.cells #[v0,.slice (some (E bb bo)) L.b.length bc,v2] 62)).alloc (.cells #[.int .i64 T.u0,.int .i64 T.u1,.int .i64 T.u2,.int .i64 T.w0,.int .i64 T.w1,.int .i64 T.w2,.int .i64 T.r] 27)).alloc (.cells #[.int .i64 0,.slice none 0 0] 110)).alloc (.cells #[.int .i64 0,.slice none 0 0] 110))):=by refine⟨(QA _ _).alloc (by rw [aK];exact Qc _) _,none,0,?_,⟨rfl,.inl ⟨rfl,rfl⟩⟩⟩;have h:=zm (((x.alloc (.cells #[v0,.slice (some (E bb bo)) L.b.length bc,v2] 62)).alloc (.cells #[.int .i64 T.u0,.int .i64 T.u1,.int .i64 T.u2,.int .i64 T.w0,.int .i64 T.w1,.int .i64 T.w2,.int .i64 T.r] 27)).alloc (.cells #[.int .i64 0,.slice none 0 0] 110)) #[.int .i64 0,.slice none 0 0] 110;rw [aK] at h;exact h
 have aT:=Z gQ;have aM:=Z (fun k=>tK (L:=L) (t:=T) K k);have bj:=Z (fun k=>Y4 (t:=T) (zc L.b k).o K);have aR:=Z (mN hm K);have bg:=Z (fun op W=>vx T op W);clear gQ hm K;go_enter func93,ntmps93;go_wp2;go_loopw [8,15] (fun ovv i wr=>∃k:Nat,k<=L.b.length/\i=.int .i64 k/\ovv=.int .i64 (xR L T k)/\kM L T x (((x.alloc (.cells #[v0,.slice (some (E bb bo)) L.b.length bc,v2] 62)).alloc (.cells #[.int .i64 T.u0,.int .i64 T.u1,.int .i64 T.u2,.int .i64 T.w0,.int .i64 T.w1,.int .i64 T.w2,.int .i64 T.r] 27)).alloc (.cells #[.int .i64 0,.slice none 0 0] 110)) k wr/\(x.heap.size+1+1+1+1)<=wr.heap.size) (fun _ i _=>L.b.length - (intOf i).toNat)
 case atStart=>exact⟨0,Ql _,rfl,rfl,aL,by simp⟩
 clear aL;obtain⟨k,hk,rfl,rfl,p,bY⟩:=hrel;have bf:=Z p;have I:Bw x wr:=aS.t (p.bel.m (by omega));by_cases hkl:k<L.b.length
 ·have bF:(k:Int)<(L.b.length:Int):=by omega
  obtain⟨X,c1,c2,c3,c4,c5,c6,c7,c8⟩:=Ue (fun j hj=>(ze I bb (bo+k*9+j) hbb).t (aT k hkl j hj));have bU:bb<wr.heap.size:=by omega
  obtain⟨f,c,m,z⟩:=p.blk;have bR:=Z m;have F:=Z z;have M:wr.cell? (E ((x.heap.size+1+1+1)) 0)=some (.int .i64 0):=cb m
  have N:wr.cell? (E ((x.heap.size+1+1+1)) 1)=some (.slice f k c):=cb m
  have bN:=aM k;have bL:=bj k;have V:Hid (xR L T (k+1)=xR L T k+yj T (zc L.b k).o):=Ak _ _ _;have aD:Hid (∀y,Below (x.heap.size+1+1+1) wr y->y.cell? (E (x.heap.size+1) 0)=some (.int .i64 T.u0)/\y.cell? (E (x.heap.size+1) 1)=some (.int .i64 T.u1)/\y.cell? (E (x.heap.size+1) 2)=some (.int .i64 T.u2)/\y.cell? (E (x.heap.size+1) 3)=some (.int .i64 T.w0)/\y.cell? (E (x.heap.size+1) 4)=some (.int .i64 T.w1)/\y.cell? (E (x.heap.size+1) 5)=some (.int .i64 T.w2)/\y.cell? (E (x.heap.size+1) 6)=some (.int .i64 T.r)):=fun y hy=>by have hb:=((hy.block (x.heap.size+1) (by omega)).t (p.bel.block _ (by omega))).t aC;refine⟨?_,?_,?_,?_,?_,?_,?_⟩ <;> (rw [Qa hb];rfl)
  have af:=Z (fun y w1 la' lc' (hb:Bw wr y) az hg=>kM.next (w1:=w1) (la':=la') (lc':=lc') p (by omega) hb m z az hg);obtain⟨d,s⟩:=nm (xR L T k);rw [s] at bN V af ⊢;obtain⟨wt,aP⟩:=nm (yj T (zc L.b k).o);have G:=Z (fun W=>bg (zc L.b k).o W);rw [aP] at V bL G;generalize zc L.b k=xk at X c1 c2 c3 c4 c5 c6 c7 c8 G;obtain⟨o,xa,xb,ya,yb,ar,sp,pl,nn⟩:=xk;(try simp only at X c1 c2 c3 c4 c5 c6 c7 c8 G);have O:Hid (Bw wr ((wr.alloc (.cells #[.int .i64 o,.int .i64 xa,.int .i64 xb,.int .i64 ya,.int .i64 yb,.int .i64 ar,.int .i64 sp,.int .i64 pl,.int .i64 nn] 144)).alloc (.cells #[.int .i64 d] 3))):=QB _ _ _;have bJ:(x.heap.size+1+1+1)<wr.heap.size:=by omega
  clear s aP m z p I;have aO:∀(j:Nat) (u:vO),[(.int .i64 d:vO)][j]?=some u->((wr.alloc (.cells #[.int .i64 o,.int .i64 xa,.int .i64 xb,.int .i64 ya,.int .i64 yb,.int .i64 ar,.int .i64 sp,.int .i64 pl,.int .i64 nn] 144)).alloc (.cells #[.int .i64 d] 3)).cell? (((E (wr.heap.size+1) 0):Addr).add j)=some u:=by have h:=R4 (wr.alloc (.cells #[.int .i64 o,.int .i64 xa,.int .i64 xb,.int .i64 ya,.int .i64 yb,.int .i64 ar,.int .i64 sp,.int .i64 pl,.int .i64 nn] 144)) (.int .i64 d) 3;have e:(wr.alloc (.cells #[.int .i64 o,.int .i64 xa,.int .i64 xb,.int .i64 ya,.int .i64 yb,.int .i64 ar,.int .i64 sp,.int .i64 pl,.int .i64 nn] 144)).heap.size=wr.heap.size+1:=(by simp);rw [e] at h;exact h
  have aZ:=Z aO;have bh:Hid (((wr.alloc (.cells #[.int .i64 o,.int .i64 xa,.int .i64 xb,.int .i64 ya,.int .i64 yb,.int .i64 ar,.int .i64 sp,.int .i64 pl,.int .i64 nn] 144)).alloc (.cells #[.int .i64 d] 3)).heap[wr.heap.size]?=some (.cells #[.int .i64 o,.int .i64 xa,.int .i64 xb,.int .i64 ya,.int .i64 yb,.int .i64 ar,.int .i64 sp,.int .i64 pl,.int .i64 nn] 144 (0,0))):=by show _=_;rw [Qr _ _ _ (by simp)];exact zm _ _ _
  have aY:Hid (∀g,Value.ownBlock (.slice f k c)=some g->g<wr.heap.size):=zA F;have aV:=Z (zR F);have bK:wr.heap.size<((wr.alloc (.cells #[.int .i64 o,.int .i64 xa,.int .i64 xb,.int .i64 ya,.int .i64 yb,.int .i64 ar,.int .i64 sp,.int .i64 pl,.int .i64 nn] 144)).alloc (.cells #[.int .i64 d] 3)).heap.size:=by simp;omega
  clear aO;rename wO=>wo;have bW:¬wo.heap.size=(x.heap.size+1+1+1):=by omega
  go_wp2_with (at_builtin;refine QQ _ rfl (.tmp 20) (.tmp 22) 34 rfl (x.heap.size+1+1+1+1) 3 i0 (.int .i64 0) 1 8 underlying34 hi bO bP bQ rfl (by decide) _ _ _ rfl (zp F O) (E (wo.heap.size+1) 0) 1 1 [.int .i64 d] rfl rfl (by exact aZ) (by intro u hu;simp at hu;subst hu;rfl) (by unfold maxLen;omega) (by omega) (by simp;omega) ?_;intro v1 w1 gM gL A;obtain⟨g1,gB,rfl,-,-,-,-⟩:=yC gM (.inr (by omega));have aX:=Z gM;have P:=Z gL;clear gM gL A X c1 c2 c3 c4 c5 c6 c7 c8 M N;have H:=Z (af _ w1 _ _ O aX P);have M:w1.c ((x.heap.size+1+1+1)) 0=some (.int .i64 0):=(cb H.2);have N:w1.c ((x.heap.size+1+1+1)) 1=some (.slice f k c):=(cb H.2);have mf:w1.frozen? (E ((x.heap.size+1+1+1)) 1)=false:=(by simp [World.frozen?,H.2]);have ao:Below (x.heap.size+1+1+1) wo w1:=((O.m (by omega)).grown P (by omega) (fun q hq=>by have:=aV q hq;omega));obtain⟨t0,t1,t2,t3,t4,t5,t6⟩:=aD w1 ao;have R:w1.heap[wo.heap.size]?=some (.cells #[.int .i64 o,.int .i64 xa,.int .i64 xb,.int .i64 ya,.int .i64 yb,.int .i64 ar,.int .i64 sp,.int .i64 pl,.int .i64 nn] 144 (0,0)):=((P.block _ bK (fun e=>by have:=aY _ e.s;omega)).t bh);have s0:w1.c wo.heap.size 0=some (.int .i64 o):=(cb R);have bM:wo.heap.size<w1.heap.size:=(lo R);clear ao R);refine (G _).mr fun x3 Q=>?_;have S:(x.heap.size+1+1+1)<(w1.st ((x.heap.size+1+1+1)) 1 (.slice (pA g1) (k+1) gB)).heap.size:=by simp;omega
  have aW:Hid (kM L T x (((x.alloc (.cells #[v0,.slice (some (E bb bo)) L.b.length bc,v2] 62)).alloc (.cells #[.int .i64 T.u0,.int .i64 T.u1,.int .i64 T.u2,.int .i64 T.w0,.int .i64 T.w1,.int .i64 T.w2,.int .i64 T.r] 27)).alloc (.cells #[.int .i64 0,.slice none 0 0] 110)) (k+1) x3):=H.1.gE (by simp;omega) Q S;have aI:(x.heap.size+1+1+1+1)<=x3.heap.size:=QH S Q.size;clear Q S t0 t1 t2 t3 t4 t5 t6 s0 M N mf;have s:wrap64 (d+wt)=d+wt:=by unfold wrap64;omega
  go_wp2;go_roundw
  case rel=>exact⟨k+1,by omega,by go_num,by rw [V],aW,aI⟩
  simp [intOf];omega
 have e:k=L.b.length:=by omega
 subst e;have bF:¬(L.b.length:Int)<(L.b.length:Int):=by omega
 obtain⟨f,c,m,z⟩:=p.blk;have M:wr.c ((x.heap.size+1+1+1)) 0=some (.int .i64 0):=cb m
 have N:wr.c ((x.heap.size+1+1+1)) 1=some (.slice f L.b.length c):=cb m
 have mf0:wr.frozen? (E ((x.heap.size+1+1+1)) 0)=false:=by simp [World.frozen?,m]
 have B:wr.heap[x.heap.size+1+1]?=some (.cells #[.int .i64 0,.slice none 0 0] 110 (0,0)):=(p.bel.block _ (by omega)).t bz;have r0:wr.c (x.heap.size+1+1) 0=some (.int .i64 0):=cb B
 have r1:wr.c (x.heap.size+1+1) 1=some (.slice none 0 0):=cb B
 have rf0:wr.frozen? (E (x.heap.size+1+1) 0)=false:=by simp [World.frozen?,B]
 have rf1:wr.frozen? (E (x.heap.size+1+1) 1)=false:=by simp [World.frozen?,B]
 have F:=Z z;have aU:=Z I;obtain⟨d,s⟩:=nm (xR L T L.b.length);have al:Hid (xU L T=d):=s;have bC:=aR;rw [al] at bC;rw [s];have U:Hid (∀l,l=max n d->uG L T n x (.returned (.agg #[.int .i64 l,.slice f L.b.length c])) (((wr.st ((x.heap.size+1+1+1)) 0 (.int .i64 l)).st (x.heap.size+1+1) 0 (.int .i64 l)).st (x.heap.size+1+1) 1 (.slice f L.b.length c))/\(((wr.st ((x.heap.size+1+1+1)) 0 (.int .i64 l)).st (x.heap.size+1+1) 0 (.int .i64 l)).st (x.heap.size+1+1) 1 (.slice f L.b.length c)).c (x.heap.size+1+1) 0=some (.int .i64 l)/\(((wr.st ((x.heap.size+1+1+1)) 0 (.int .i64 l)).st (x.heap.size+1+1) 0 (.int .i64 l)).st (x.heap.size+1+1) 1 (.slice f L.b.length c)).c (x.heap.size+1+1) 1=some (.slice f L.b.length c)):=by
  intro l hmx;have aG:(wr.st ((x.heap.size+1+1+1)) 0 (.int .i64 l)).heap[x.heap.size+1+1]?=some (.cells #[.int .i64 0,.slice none 0 0] 110 (0,0)):=by rw [Qj _ _ _ _ (show x.heap.size+1+1≠(x.heap.size+1+1+1) by omega)];exact B
  obtain⟨s0,s1⟩:=Yr (a':=.int .i64 l) (b':=.slice f L.b.length c) aG;obtain⟨g,cap,hv,hg,hn,aF,gI⟩:=yC z (.inr (by omega));injection hv with hv1 hv2 hv3;subst hv1;subst hv3;refine⟨⟨((aU.setCell (by grind) _).setCell (by grind) _).setCell (by grind) _,g,c,by rw [al,hmx],by omega,?_⟩,s0,s1⟩;have hr:=((gI.gF (a:=(E ((x.heap.size+1+1+1)) 0)) (by grind) (.int .i64 l)).gF (a:=(E (x.heap.size+1+1) 0)) (by grind) (.int .i64 l)).gF (a:=(E (x.heap.size+1+1) 1)) (by grind) (.slice (pA g) L.b.length c);have hlen:(Xl L T).length=L.b.length:=by unfold Xl;simp
  refine⟨some (E g 0),c,by rw [hlen],by omega,aF,fun i hi=>?_,fun _=>⟨g,0,rfl,hr.lt,fun i hi=>?_⟩⟩
  ·rw [hlen] at hi;rw [Vg hi];have:=aM i;omega
  rw [hlen] at hi;rw [Vg hi,QO,hr.cell hi];exact congrArg some (YD (fun i=>.int .i64 (xR L T i)) L.b.length i hi)
 clear s m B z p I;rename wO=>wo;go_wp2
 all_goals first
  | (obtain⟨h1,C,D⟩:=U n (by omega);exact bodyPost_ret (v:=.agg #[.int .i64 n,.slice f L.b.length c]) (by simp [results,results93,go_sem,C,D]) rfl h1)
  | (obtain⟨h1,C,D⟩:=U (max n d) rfl;exact bodyPost_ret (v:=.agg #[.int .i64 (max n d),.slice f L.b.length c]) (by simp [results,results93,go_sem,C,D]) rfl h1)
  | (obtain⟨h1,C,D⟩:=U d (by omega);exact bodyPost_ret (v:=.agg #[.int .i64 d,.slice f L.b.length c]) (by simp [results,results93,go_sem,C,D]) rfl h1)
end
end Go.Proofs.YtjlfcbccpcigeacGreatDoor
