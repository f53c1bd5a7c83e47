import Derived.Test.YtjlfcbccpcigeacGreatDoorC3
import Derived.Test.YtjlfcbccpcigeacGreatDoorF
import Derived.Test.YtjlfcbccpcigeacGreatDoorG
import Derived.RangeFuncNested
import Derived.RangeFuncBound
import Derived.Shelf.Abstract
import Derived.OwnWalkIn
import Derived.TacticsInMore
import Derived.LoopNIn
import Derived.LoopIn
set_option maxHeartbeats 40000000
set_option linter.defProp false
namespace Go.Proofs.YtjlfcbccpcigeacGreatDoor
open Go.Proofs.Tryz Go.RowKit Go.Joins
set_option linter.unusedVariables false
set_option linter.unusedSimpArgs false
set_option maxRecDepth 8192
section
variable {A B w:wO} {l n m k:Nat} {o:Obj} {P:Program} {Q:Exit->Act->wO->Prop} {a:Act} {f:FuncId} {args:Array vO} {R R':Ending->wO->Prop} {ops:Array Oper}
structure Ck (A B:wO):Prop where
 size:A.heap.size<=B.heap.size
 cell:∀p v,A.cell? p=some v->B.cell? p=some v
theorem Ck.t {C:wO} (h:Ck A B) (k:Ck B C):Ck A C:=⟨QH h.size k.size,fun p v e=>k.cell p v (h.cell p v e)⟩
def Ck.gE (h:Bw A B):Ck A B:=⟨h.size,fun p v e=>by
 have a:p.block<A.z:=by
  cases hb:A.heap[p.block]? with
  | none=>simp [World.cell?,hb] at e
  | some o=>exact (lo hb)
 exact (h.cell a).t e⟩
def Ck.put (a:Obj) (b:A.heap[l]?=some o) (c:o.isCells=false):Ck A (A.putObj l a) :=
 ⟨sM,fun p v e=>cell_kept e (grownBy_putObj' A l a) (fun r e=>sA)⟩
def tj (a:Obj) (b:A.heap[l]?=some o) (hn:n<=l):Below n A (A.putObj l a) :=
 (QA n A).grown (grownBy_putObj' A l a) rQ (fun k e=>by cases e;lia)
def L8 (B:Nat) (Nx Fin:Prop) (Res:wO->Prop) (la:Bool) (W:wO):Exit->Act->wO->Prop
 | .normal,_,W'=>Bw W W'/\(la=false->Nx)/\(la->Fin)
 | .ret,_,W'=>W.heap.size<=W'.heap.size/\(∀k,B<=k->k<W.heap.size->W'.heap[k]?=W.heap[k]?)/\Res W'
 | _,_,_=>False
def BB {α S:Type} (P:Program) (gf:Nat) (lb:Array vO) (enc:α->vO) (Px:Bool->S->α->S->wO->Prop) (s0:S) (w:wO):Prop :=
 ∀ (n l:Nat) (J0:S->wO->Prop) (J1 Jx:wO->Prop) (W:wO),(∀s A,J0 s A->Bw w A)->(∀s A B,J0 s A->Bw A B->J0 s B) ->
   (∀k la s x s' A,J0 s A->Px la s x s' A->YieldAt Fence.wide k P l #[enc x] A fun e B=>(e=.returned (.bool true)/\Ck A B/\(la=false->J0 s' B)/\(la->J1 B))\/(e=.returned (.bool false)/\Jx B))->J0 s0 W ->
   CallsIn Fence.wide n P gf (#[.func (.yield l) #[] #[]]++lb) W fun e B=>(∃v,e=.returned v)/\(J1 B\/Jx B)
def L9 {α S:Type} {g:Operand} {ps:Array Tmp} {assign body:Code} {gf:Nat} {lb:Array vO}
  (hg:a.eval g=.func (.func gf) #[] lb) (eg:∀args w,(callFunc gf args).run P w=.ok (.enter gf args) w)
  {enc:α->vO} {Px:Bool->S->α->S->wO->Prop} {s0:S} (hit:BB P gf lb enc Px s0 w) (aM:ps.size=1)
  (aE:∀la s x s' A B,Px la s x s' A->Ck A B->Px la s x s' B) (Inv:S->Prop) (al:Inv s0)
  (Fin:Prop) (Res:wO->Prop) (ae:∀A l o o',Res A->w.heap.size<=l->A.heap[l]?=some o->o.isCells=false->Res (A.putObj l o'))
  (ax:α->Nat->Act) (bx:α->Obj)
  (aa:∀(l k:Nat) (x:α) (W:wO) (K:Act->wO->Prop),K (ax x W.heap.size) (W.alloc (bx x)) ->
   assign.wpIn (Fence.wide.inRound l) k P (Exit.then K (fun _ _ _=>False)) { tmps:=(ps.zip #[enc x]).foldl (fun t (p,v)=>t.setIfInBounds p v) a.tmps,defers:=[] } W)
  (gQ:∀(l k B:Nat) (la:Bool) (s:S) (x:α) (s':S) (W:wO),Inv s->Bw w W->Px la s x s' W->w.heap.size<=B->W.heap[B]?=some (bx x)->body.wpIn (Fence.wide.inRound l) k P (L8 w.heap.size (Inv s') Fin Res la W) (ax x B) W)
  (af:∀(D:Nat) (W:wO),w.heap.size<=D->Fin->Bw w W->W.heap[D]?=some (.deferred (some []))->Q .normal { a with defers:={ target:=.collected D,args:=#[] } :: a.defers } W)
  (ag:∀(D:Nat) (W:wO),w.heap.size<=D->Res W->W.heap[D]?=some (.deferred (some []))->Code.ret.wpIn Fence.wide n P Q { a with defers:={ target:=.collected D,args:=#[] } :: a.defers } W) :
  (Code.rangeFunc g ps assign body).wpIn Fence.wide n P Q a w:=by
 refine wpIn_rangeFunc ?_;intro fn hfn;let rc:LoopState->Option Code->Loop:=fun st pe=>{ state:=st,pending:=pe,fn,tmps:=a.tmps,params:=ps,assign,body,defers:=w.heap.size };obtain⟨W1,ah⟩:=nm ((w.alloc (.deferred (some []))).alloc (.loop (rc .ready none)));have aF:Bw w W1:=by rw [<-ah];exact ((QA _ w).alloc (Qc _) _).alloc sM _
 have aK:W1.heap[w.heap.size+1]?=some (.loop (rc .ready none)):=by rw [<-ah];have h:=World.alloc_heap_new (w.alloc (.deferred (some []))) (.loop (rc .ready none));rwa [World.size_alloc] at h
 have aH:W1.heap[w.heap.size]?=some (.deferred (some [])):=by rw [<-ah];exact (Qr _ _ _ sM).t (World.alloc_heap_new w _)
 refine⟨w.heap.size+1,[{ target:=.collected w.heap.size,args:=#[] }],W1,{ target:=.fn (.func gf) lb,args:=#[.func (.yield (w.heap.size+1)) #[] #[]] },W1,gf,#[.func (.yield (w.heap.size+1)) #[] #[]]++lb,W1,by rw [<-ah];exact run_enterLoop_outer _ _ _ _ _,?_,fun _ _=>trivial,?_,fun h=>by simp [Fence.wide] at h,?_⟩
 ·simp only [resolve,hg];simp [go_sem]
 ·simp [invoke,go_sem,eg]
 have low:∀{A B:wO} {k:Nat} {o:Obj},A.heap[k]?=some o->Bw A B->B.heap[k]?=some o:=fun h hb=>(hb.block _ (lo h)).t h
 refine (hit (n - 1) (w.heap.size+1)
  (fun s A=>Inv s/\Bw w A/\A.heap[w.heap.size+1]?=some (.loop (rc .ready none))/\A.heap[w.heap.size]?=some (.deferred (some [])))
  (fun A=>Fin/\Bw w A/\A.heap[w.heap.size+1]?=some (.loop (rc .ready none))/\A.heap[w.heap.size]?=some (.deferred (some [])))
  (fun A=>Res A/\A.heap[w.heap.size+1]?=some (.loop (rc .done (some .ret)))/\A.heap[w.heap.size]?=some (.deferred (some [])))
  W1 (fun s A h=>h.2.1) (fun s A B h hb=>⟨h.1,h.2.1.tm hb,low h.2.2.1 hb,low h.2.2.2 hb⟩) ?_ ⟨al,aF,aK,aH⟩).mono ?_
 ·rintro k la s x s' A ⟨hi,hA,hl,hd⟩ hx;have aQ:w.heap.size+1<A.heap.size:=(lo hl);refine⟨fn,_,assign,body,run_yield (P:=P) (args:=#[enc x]) hl (by simpa using aM.s),roundIn_of_wpIn hfn (aa _ k x A _ ?_)⟩;have aj:Bw A (A.alloc (bx x)):=(QA _ A).alloc (Qc _) _;have az:=low hl aj;have aI:=low hd aj;refine⟨_,run_beginRound az rfl,?_⟩;obtain⟨W2,ac⟩:=nm ((A.alloc (bx x)).putObj (w.heap.size+1) (.loop { rc .ready none with state:=.busy }));have ao:Bw w W2:=by rw [<-ac];exact (hA.tm aj).t (belowK_b (w:=w) (Qc _) _ _ _ _ oM az rfl rfl)
  have aA:Ck A W2:=by rw [<-ac];exact (Ck.gE aj).t (Ck.put _ az rfl)
  have ay:W2.heap[w.heap.size+1]?=some (.loop { rc .ready none with state:=.busy }):=by rw [<-ac];exact World.putObj_heap_same sO
  have aB:W2.heap[w.heap.size]?=some (.deferred (some [])):=by rw [<-ac];exact (World.putObj_heap_other oM).t aI
  have aP:W2.heap[A.heap.size]?=some (bx x):=by rw [<-ac];exact (World.putObj_heap_other oM).t (World.alloc_heap_new _ _)
  have aO:=(lo ay);have e2:(A.alloc (bx x)).putObj (w.heap.size+1) (.loop { rc .ready none with state:=.busy })=W2:=ac;show body.wpIn _ _ _ _ _ ((A.alloc (bx x)).putObj (w.heap.size+1) (.loop { rc .ready none with state:=.busy }));rw [e2];refine wpIn_mono (gQ _ k A.heap.size la s x s' W2 hi ao (aE _ _ _ _ _ _ hx aA) hA.size aP) ?_;rintro e a3 W3 hp;cases e with
  | normal =>
   obtain⟨ai,aL,hf⟩:=hp;have ab:=low ay ai;have au:=low aB ai;have aD:=(lo ab);have aG:Bw w (W3.putObj (w.heap.size+1) (.loop (rc .ready none))):=(ao.tm ai).t (belowK_b (w:=w) (Qc _) _ _ _ _ oM ab rfl rfl)
   have hj:Bw w (W3.putObj (w.heap.size+1) (.loop (rc .ready none)))/\(W3.putObj (w.heap.size+1) (.loop (rc .ready none))).heap[w.heap.size+1]?=some (.loop (rc .ready none))/\(W3.putObj (w.heap.size+1) (.loop (rc .ready none))).heap[w.heap.size]?=some (.deferred (some [])) :=
    ⟨aG,World.putObj_heap_same aD,(World.putObj_heap_other oM).t au⟩
   exact⟨_,_,run_endRound (P:=P) none ab,.inl ⟨rfl,aA.t ((Ck.gE ai).t (Ck.put _ ab rfl)),fun h=>⟨aL h,hj⟩,fun h=>⟨hf h,hj⟩⟩⟩
  | ret =>obtain⟨aD,aC,aN⟩:=hp;have ab:=(aC _ oM aO).t ay;have au:=(aC _ (Qc _) oM).t aB;exact⟨_,_,run_endRound (P:=P) (some .ret) ab,.inr ⟨rfl,ae _ _ _ _ aN oM ab rfl,World.putObj_heap_same oM,(World.putObj_heap_other oM).t au⟩⟩
  | exit id=>exact hp.elim
  | goto t=>exact hp.elim
  | panic ch=>exact hp.elim
  | outgrown=>exact hp.elim
 rintro e W2 ⟨⟨v,rfl⟩,(⟨hf,hb,hl,hd⟩ | ⟨hr,hl,hd⟩)⟩
 ·exact⟨none,_,run_endLoop (P:=P) hl (by simp [rc]),af _ _ (Qc _) hf (hb.t (belowK_b (w:=w) (Qc _) _ _ _ _ oM hl rfl rfl)) ((World.putObj_heap_other oM).t hd)⟩
 exact⟨some .ret,_,run_endLoop (P:=P) hl (by simp [rc]),ag _ _ (Qc _) (ae _ _ _ _ hr oM hl rfl) ((World.putObj_heap_other oM).t hd)⟩
def VW (h:Calls P f args w R) (hR:∀e w',R e w'->R' e w'):Fence.wide.fn f/\(Fence.wide.depth.isSome->1<=n)/\CallsIn Fence.wide m P f args w R' :=
 ⟨trivial,fun h=>by simp [Fence.wide] at h,(callsIn_wide.2 h).mono hR⟩
def Ma (h:Calls P f args w R) (hR:∀e w',R e w'->R' e w'):(Fence.wide.inRound l).fn f/\((Fence.wide.inRound l).depth.isSome->1<=n)/\CallsIn (Fence.wide.inRound l) m P f args w R' :=
 ⟨trivial,fun h=>by simp [Fence.wide,Fence.inRound] at h,CallsIn.inRound l ((callsIn_wide.2 h).mono hR)⟩
def kJ (Q:Exit->Act->wO->Prop):Exit->Act->wO->Prop
 | .normal,a,w=>Q .normal a w
 | _,_,_=>False
def kJ.imp:∀(e:Exit) (a:Act) (w:wO),kJ Q e a w->Q e a w:=by grind [kJ]
def kJ.normal (h:Q .normal a w):kJ Q .normal a w:=h
def BC (ops:Array Oper):Bool:=ops.all fun o=>match o.op with | .defer _=>false | _=>true
def Mb {o:Oper} {K:Act->wO->Prop} (g:(match o.op with | .defer _=>false | _=>true)=true) (h:o.wp P a w K Q):o.wpIn (Fence.wide.inRound l) k P a w K Q:=by
 refine⟨fun _ _=>trivial,?_⟩;have e:o.semAt (Fence.wide.inRound l).round a.eval=execOp a.eval o:=by
  unfold Oper.semAt;grind
 have hn:(Fence.wide.inRound l).depth.isSome->1<=k:=fun h=>by simp [Fence.wide,Fence.inRound] at h
 rw [e];unfold Oper.wp at h;revert h;cases hr:(execOp a.eval o).run P w with
 | ok nx w' =>
  cases nx <;> intro h
  case enter f args=>exact⟨hn,CallsIn.inRound l (callsIn_wide.2 h)⟩
  case row r args=>exact⟨hn,fun c b _=>let ⟨v,w',r,s⟩:=h c b;⟨v,w',r,stepsIn_wide.2 s⟩⟩
  all_goals first | exact h | exact (h:False).elim
 | halt d w'=>intro h;cases d <;> first | exact h | exact (h:False).elim
def pQ {m:Region.Mode} (d:BC ops):∀(b:Nat) (f:Array Bool) (a:Act) (w:wO),wpAny P m ops (kJ Q) b f a w->wpAnyIn (Fence.wide.inRound l) k P m ops (kJ Q) b f a w
 | 0,_,_,_,h=>h
 | b+1,f,a,w,h=>⟨h.1,fun i hi=>by
   have c:=h.2 i hi
   unfold wpOp at c
   unfold wpOpIn
   cases g:ops[i]? with
   | none=>rw [g] at c;exact pQ d b _ a w c
   | some o =>
     rw [g] at c
     have n:(match o.op with | .defer _=>false | _=>true)=true:=Array.all_eq_true'.1 d o (Array.mem_of_getElem? g)
     by_cases j:Region.wanted o (yielded ops a.tmps)
     ·simp only [j,if_true] at c ⊢
      rcases c with c | ⟨-,-,-,⟨⟩⟩
      exact Mb n (Oper.wp_mono (fun a' w' p=>pQ d b _ a' w' p) c)
     ·simp only [j,if_false,Ei] at c ⊢
      exact⟨fun _ _=>trivial,pQ d b _ _ w c⟩⟩
def Md {id:Nat} (z:Nat) (S:wO->Prop) (hm:P.follows .mixedOrders) (b:BC ops) (hS:S w.drew) (h:S w.drew->YX P .any ops (kJ Q) S z ops.size (Array.replicate ops.size false) a w.drew):(Code.region id ops true).wpIn (Fence.wide.inRound l) k P Q a w :=
 wpIn_mono (wpIn_region_any hm (pQ b _ _ _ _ (U1 _ _ _ _ (h hS)))) kJ.imp
end
section
variable {L:Lp} {t:Tg} {P s:Int} {T:Li} {r r':Option Kn} {A B x y w V:wO} {v k0 k1 kv ov c:vO} {g n:Nat} {e ta tb tc:TypeId} {K:Kn} {o:Obj}
def kU (L:Lp) (t:Tg) (P:Int) (T:Li) (r:Option Kn):Prop:=∃d,Xd L t P T d/\r=d.map (Zy L t P T)
def kU.unique (h:kU L t P T r) (c:kU L t P T r'):r=r':=by obtain⟨d,h1,f⟩:=h;obtain⟨d',a,b⟩:=c;rw [f,b,h1.unique a]
inductive yN (L:Lp) (t:Tg):Int->Option Kn->Prop
 | here (s P:Int) (T:Li) (K:Kn) (h:s<xU L t) (hm:Yz L t s P T) (hp:P<xU L t) (ab:zZ L t P T) (hk:kU L t P T (some K)):yN L t s (some K)
 | next (s P:Int) (T:Li) (r:Option Kn) (h:s<xU L t) (hm:Yz L t s P T) (hp:P<xU L t) (hk:kU L t P T none) (hr:yN L t (P+1) r):yN L t s r
 | last (s:Int) (r:Option Kn) (h:xU L t<=s\/∃P T,Yz L t s P T/\xU L t<=P) (ab:zZ L t (xU L t) (Xl L t)) (hk:kU L t (xU L t) (Xl L t) r):yN L t s r
def ph (h:s<xU L t) (hm:Yz L t s P T) (d:P<xU L t):¬(xU L t<=s\/∃P T,Yz L t s P T/\xU L t<=P):=by
 rintro (h1 | ⟨a,b,h1,c⟩)
 ·lia
 have:=(hm.unique h1).1;lia
def yN.unique (h:yN L t s r):yN L t s r'->r=r':=by
 induction h generalizing r' with
 | here s P T K h hm l n i =>
  intro c;cases c with
  | here _ j k m c b f d a =>obtain⟨rfl,rfl⟩:=hm.unique b;exact i.unique a
  | next _ j k r c b f a g =>obtain⟨rfl,rfl⟩:=hm.unique b;have:=i.unique a;cases this
  | last _ _ c d a=>exact absurd c (ph h hm l)
 | next s P T r h hm l i hr ih =>
  intro c;cases c with
  | here _ j k m c b f d a =>obtain⟨rfl,rfl⟩:=hm.unique b;have:=i.unique a;cases this
  | next _ j k r c b f a g =>obtain⟨rfl,rfl⟩:=hm.unique b;exact ih g
  | last _ _ c d a=>exact absurd c (ph h hm l)
 | last s r h n i =>
  intro c;cases c with
  | here _ j k m c b f d a=>exact absurd h (ph c b f)
  | next _ j k r c b f a g=>exact absurd h (ph c b f)
  | last _ _ c d a=>exact i.unique a
theorem yN.made (h:yN L t s r):∀K,r=some K->∃P T D,zZ L t P T/\P<=xU L t/\Xd L t P T (some D)/\K=Zy L t P T D:=by
 have key:∀{P:Int} {T:Li} {K:Kn},kU L t P T (some K)->∃D,Xd L t P T (some D)/\K=Zy L t P T D:=fun h=>by
  obtain⟨d,h1,a⟩:=h;cases d with
  | none=>cases a
  | some D=>exact⟨D,h1,QD a⟩
 induction h with
 | here s P T K h hm f c b =>intro g e;obtain⟨D,h1,a⟩:=key b;exact⟨P,T,D,c,lI,h1,(QD e).s.t a⟩
 | next s P T r h hm f b hr ih=>exact ih
 | last s r h c b =>intro K e;rw [e] at b;obtain⟨D,h1,a⟩:=key b;exact⟨_,_,D,c,QR _,h1,a⟩
def yN.none (h:yN L t s r):r=Option.none->zZ L t (xU L t) (Xl L t)/\Xd L t (xU L t) (Xl L t) Option.none:=by
 induction h with
 | here s P T K h hm f b a=>intro e;cases e
 | next s P T r h hm f a hr ih=>exact ih
 | last s r h b a =>
  intro e;rw [e] at a;obtain⟨d,h1,c⟩:=a;cases d with
  | none=>exact⟨b,h1⟩
  | some D=>cases c
section
attribute [local go_sem] Oper.semAt_some
def zM.ck {zs:Li} (h:zM A v zs) (k:Ck A B):zM B v zs:=by obtain⟨a,cap,e,h1,f,g,j⟩:=h;refine⟨a,cap,e,h1,f,g,fun n=>?_⟩;obtain⟨b,c,d,l,m⟩:=j n;exact⟨b,c,d,Qu l k.size,fun i hi=>k.cell _ _ (m i hi)⟩
def Xs.ck (h:Xs A v P T) (k:Ck A B):Xs B v P T:=by obtain⟨tv,e,h1⟩:=h;exact⟨tv,e,h1.ck k⟩
def mK (x:Int × Option Addr × Nat × Nat):vO:=.agg #[J x.1,.slice x.2.1 x.2.2.1 x.2.2.2]
def nC (L:Lp) (t:Tg) (la:Bool) (s:Int) (x:Int × Option Addr × Nat × Nat) (s':Int) (A:wO):Prop :=
 ∃T,Xs A (mK x) x.1 T/\zZ L t x.1 T/\(la=false->s<xU L t/\Yz L t s x.1 T/\x.1<xU L t/\s'=x.1+1)/\(la->x.1=xU L t/\T=Xl L t/\(xU L t<=s\/∃P T,Yz L t s P T/\xU L t<=P))
def nC.ck {a:Bool} {b:Int} {x:Int × Option Addr × Nat × Nat} (h:nC L t a s x b A) (k:Ck A B):nC L t a s x b B:=by obtain⟨T,h1,c⟩:=h;exact⟨T,h1.ck k,c⟩
def pj:Prop:=∀(v:vO) (t:Tg) (L:Lp) (gU:Int) (w:wO),zI w v L->zQ L->zS t->1<=gU->gU<=200 ->
 Cp 94 #[v,.agg t.cells,J gU] w fun e w'=>Bw w w'/\∃P ta tc T,e=.returned (.tuple #[.agg #[J P,.slice ta T.length tc],J 0])/\zM w' (.slice ta T.length tc) T/\zZ L t P T/\gU<=P/\P<=max gU (xU L t)/\Yz L t gU P T
def pk:Prop:=∀(v:vO) (t:Tg) (L:Lp) (gU:Int) (w:wO),zI w v L->zQ L->zS t->1<=gU->gU<=200->Cp 93 #[v,.agg t.cells,J gU] w fun e w'=>uG L t gU w e w'
def I5 (hM:pj) (hO:pk) (t:Tg) (L:Lp) (a0 u v:Option Addr) (z C D:Nat) (w:wO) (b1 b2:Nat) (hm:zQ L) (M:zS t)
  (hL:zI w ((lv L a0 u v z C D)) L)
  (S:w.heap[b1]?=some (lC L a0 u v z C D)) (R:w.heap[b2]?=some (tO t)) :
  BB prog 92 #[.pointer (pA b1),.pointer (pA b2)] mK (nC L t) 1 w:=by
 intro n l m J1 Jx W f I hY h0;have O:=mN hm M;have dH:=Z (fun W (h:zI W ((lv L a0 u v z C D)) L) a h1 H=>hM _ t L a W h hm M h1 H);have dI:=Z (fun W (h:zI W ((lv L a0 u v z C D)) L)=>hO _ t L 1 W h hm M oM oM);have cG:Hid (∀s A,m s A->zI A ((lv L a0 u v z C D)) L):=fun s A h=>hL.gE (f s A h);have af:Hid (∀s A,m s A->(A.cell? (E b1 0)=some (.slice a0 L.l.length z)/\A.cell? (E b1 1)=some (.slice u L.b.length C)/\A.cell? (E b1 2)=some (.slice v L.o.length D))/\A.cell? (E b2 0)=Y t.u0/\A.cell? (E b2 1)=Y t.u1/\A.cell? (E b2 2)=Y t.u2/\A.cell? (E b2 3)=Y t.w0/\A.cell? (E b2 4)=Y t.w1/\A.cell? (E b2 5)=Y t.w2/\A.cell? (E b2 6)=Y t.r):=fun s A h=>by have h1:=((f s A h).block b1 (lo S)).t S;have H:=((f s A h).block b2 (lo R)).t R;refine⟨⟨?_,?_,?_⟩,?_,?_,?_,?_,?_,?_,?_⟩;all_goals first | (rw [Qa h1];rfl) | (rw [Qa H];rfl)
 obtain⟨c,Q⟩:∃x,xU L t=x:=⟨_,rfl⟩;have y:=Z Q;have bF:=Z I;have HY:=Z hY;have cB:=Z h0;have dN:=Z (sF (P:=c) hm M (by rw [Q];omega) oM);rw [Q] at O;obtain⟨⟨l0,l1,l2⟩,t0,t1,t2,t3,t4,t5,t6⟩:=af _ _ h0;have ef:=(lo S);have eh:=(lo R);have eu:=(f _ _ h0).size;have ep:=Z f;clear hm M hL S R f I hY h0 Q;refine callsIn_of_wp func92 rfl trivial ?_ rfl;simp only [ntmps92,EG,Q5,List.length_nil,Nat.reduceAdd,Nat.reduceSub,Array.replicate_succ,Array.replicate_zero,List.push_toArray,List.append_toArray,W8,EM];gi_wp2_with fail;apply VW (dI _ (cG _ _ cB));rintro e N ⟨hb,g,tc,rfl,hg,hI⟩;have ac:=Z hb;have dA:=Z hI;have cU:max 1 c=c:=oM
 rw [y,cU];clear l0 l1 l2 t0 t1 t2 t3 t4 t5 t6 hb hI cU;obtain⟨i,U⟩:=nm (N.alloc (.cells #[J c,.slice (pA g) L.b.length tc] 110));have cO:=Z U;have dF:Hid (m 1 i):=U ▸ bF _ _ _ (bF _ _ _ cB ac) (Qd _ _)
 have bZ:Hid (∀A,Ck i A->A.c N.z 0=Y c/\A.c N.z 1=some (vP g L.b.length tc)):=fun A h=>by
  have hb:i.heap[N.z]?=some (.cells #[J c,vP g L.b.length tc] 110 (0,0)):=cO ▸ zm _ _ _
  refine⟨h.cell _ _ ?_,h.cell _ _ ?_⟩ <;> (rw [Qa hb];rfl)
 have aB:Hid (∀k s A,m s A->Ck i A->(c<=s\/∃P T,Yz L t s P T/\c<=P)->YieldAt Fence.wide k prog l #[.agg #[J c,vP g L.b.length tc]] A fun e B=>(e=.returned (.bool true)/\J1 B)\/(e=.returned (.bool false)/\Jx B)):=fun k s A K hc hs=>by refine (HY k true s (c,some (E g 0),L.b.length,tc) 0 A K ⟨_,Xs.ck (A:=i) ⟨_,rfl,?_⟩ hc,dN,fun h=>absurd h sM,fun _=>⟨y.s,rfl,by rw [y];exact hs⟩⟩).mono fun e B h=>h.imp (fun h=>⟨h.1,h.2.2.2 rfl⟩) id;rw [<-cO];exact dA.gE (Qd _ _)
 have eC:N.z<i.z:=by rw [<-U];simp
 have bD:Hid (Ck i i):=Ck.gE (QA _ _);have dJ:=Z (fun (wr:wO) (a s:Int) (h:m s wr) h1 H=>dH wr (cG s wr h) a h1 H);have bQ:=O.1;have dS:=O.2;clear O;gi_wp2_with fail;clear U;gi_loopw [5] (fun lv wr=>∃a:Int,lv=J a/\1<=a/\a<=c/\m a wr/\Ck i wr) (fun lv _=>(c - intOf lv).toNat)
 case atStart=>exact⟨1,rfl,QR _,bQ,dF,bD⟩
 obtain⟨a,rfl,dX,eA,K,bz⟩:=hrel;have HJ:=Z K;have ce:=Z bz;obtain⟨m0,m1⟩:=bZ _ bz;obtain⟨⟨l0,l1,l2⟩,t0,t1,t2,t3,t4,t5,t6⟩:=af _ _ K;have hz:=bz.size;clear K bz;by_cases dY:a<c
 ·gi_wp2_with fail;apply VW (dJ wr a a HJ dX oM);rintro e F ⟨hb,P,ta,j,T,rfl,bN,ab,di,bU,dh⟩;have cI:=Z dh;clear dh;rw [y] at bU;have bY:=Z hb;have em:=Z bN;have aC:=Z ab;have eB:P<=c:=oM
  obtain⟨p,V⟩:=nm (F.alloc (.cells #[J P,.slice ta T.length j] 110));have er:=Z V;have bR:Bw wr p:=V ▸ hb.tm (Qd _ _)
  have cC:Hid (m a p):=bF _ _ _ HJ bR;have bE:Hid (Ck i p):=ce.t (Ck.gE bR);have bH:Hid (p.heap[F.z]?=some (.cells #[J P,.slice ta T.length j] 110 (0,0))):=V ▸ zm _ _ _
  have dK:Hid (Xs p (.agg #[J P,.slice ta T.length j]) P T):=by refine⟨_,rfl,?_⟩;rw [<-V];exact bN.gE (Qd _ _)
  have ee:=hb.size;clear m0 m1 l0 l1 l2 t0 t1 t2 t3 t4 t5 t6 hb bN ab bR bU;obtain⟨m0,m1⟩:=bZ _ bE;have n0:p.c F.z 0=Y P:=cb bH
  have n1:p.c F.z 1=some (.slice ta T.length j):=cb bH
  by_cases dV:c<=P
  ·obtain⟨fn,tmps,d,body,hy,hR⟩:=aB (n - 1) a p cC bE (.inr ⟨P,T,cI,dV⟩);have G:=Z hR;clear hR;gi_wp2_with fail;refine⟨fun h=>absurd h (by simp [Fence.wide]),G.mono ?_⟩;rintro e q (⟨rfl,h⟩ | ⟨rfl,h⟩)
   ·gi_wp2_with fail;go_end0;exact⟨⟨_,rfl⟩,.inl h⟩
   gi_wp2_with fail;go_end0;exact⟨⟨_,rfl⟩,.inr h⟩
  obtain⟨fn,tmps,d,body,hy,hR⟩:=HY (n - 1) false a (P,ta,T.length,j) (P+1) p cC ⟨_,dK,aC,fun _=>⟨by rw [y];exact dY,cI,by rw [y];show P<c;omega,rfl⟩,fun h=>absurd h sM⟩;have G:=Z hR;clear hR;dsimp only [mK] at hy;gi_wp2_with fail;refine⟨fun h=>absurd h (by simp [Fence.wide]),G.mono ?_⟩;rintro e q (⟨rfl,X,de,-⟩ | ⟨rfl,h⟩)
  ·have dr:=Z X;have dE:Hid (m (P+1) q):=(by show m (P+1) q;simpa using de);have k0:q.c F.z 0=Y P:=X.cell _ _ n0;have eF:F.z<q.z:=Qu (lo bH) X.size;clear X de m0 m1 n0 n1 hy;gi_wp2_with fail;go_roundw
   case rel=>exact⟨P+1,nQ,oM,oM,dE,bE.t dr⟩
   simp [intOf];omega
  gi_wp2_with fail;apply bodyPost_ret (results_none rfl _ _ _) rfl;exact⟨⟨_,rfl⟩,.inr h⟩
 obtain⟨fn,tmps,d,body,hy,hR⟩:=aB (n - 1) a wr HJ ce (.inl oM);have G:=Z hR;clear hR;gi_wp2_with fail;refine⟨fun h=>absurd h (by simp [Fence.wide]),G.mono ?_⟩;rintro e q (⟨rfl,h⟩ | ⟨rfl,h⟩)
 ·gi_wp2_with fail;go_end0;exact⟨⟨_,rfl⟩,.inl h⟩
 gi_wp2_with fail;go_end0;exact⟨⟨_,rfl⟩,.inr h⟩
def I6 (v0 f v2 a p1 p2 b c d r:vO) (w:wO):Cp 52 #[.agg #[v0,f,v2],.agg #[a,p1,p2,b,c,d,r]] w fun e w'=>e=.returned (.func (.func 92) #[] #[.pointer (pA w.heap.size),.pointer (pA (w.heap.size+1))])/\w'=(w.alloc (.cells #[v0,f,v2] 62)).alloc (.cells #[a,p1,p2,b,c,d,r] 27):=by go_enter func52,ntmps52;go_wp2;go_ret;exact⟨rfl,rfl⟩
end
def za {a b d a' b' d':vO} (h:x.heap[g]?=some (.cells #[a,b,d] e (0,0))) :
  (((x.setCell (E g 0) a').setCell (E g 1) b').setCell (E g 2) d').cell? (E g 0)=some a'/\(((x.setCell (E g 0) a').setCell (E g 1) b').setCell (E g 2) d').cell? (E g 1)=some b'/\(((x.setCell (E g 0) a').setCell (E g 1) b').setCell (E g 2) d').cell? (E g 2)=some d':=by
 have hb:(((x.st g 0 a').st g 1 b').st g 2 d').heap[g]?=some (.cells #[a',b',d'] e (0,0)):=by simp [World.setCell,QC,h]
 refine⟨?_,?_,?_⟩ <;> (rw [Qa hb];rfl)
theorem yQ.set {i:Nat} {d:Array vO} {z:Nat × Nat} (h:yQ x v K) (hb:x.heap[g]?=some (.cells d e z)) (A:d.size<10) (u:vO):yQ (x.setCell (E g i) u) v K:=by
 obtain⟨kv,l,a,cap,m,h1,p,q⟩:=h;refine⟨kv,l,a,cap,m,h1,p,fun k=>?_⟩;obtain⟨b,c,n,y,r⟩:=q k;have o:b≠g:=fun t=>by
  subst t;have f:=r 0 k 9 lI;rw [show (yZ (zv K.ops 0))[9]?=some (J (zv K.ops 0).nn) from rfl] at f;have s:(x.cell? (E b (c+0*10+9))).isSome:=by rw [f];rfl
  simp [World.cell?,hb] at s;lia
 refine⟨b,c,n,sA,fun i hi j B=>?_⟩;rw [xX (Qj _ _ _ _ o)];grind
theorem zM.set {c:Nat} {b:Nat} (h:zM y (.slice (pA g) n c) T) (hb:b≠g) (i:Nat) (v:vO):zM (y.setCell (E b i) v) (.slice (pA g) n c) T:=by obtain⟨a,cap,e,h1,j,k,l⟩:=h;refine⟨a,cap,e,h1,j,k,fun o=>?_⟩;obtain⟨b',d,f,p,m⟩:=l o;injection e with e3;rw [f] at e3;injection e3 with e3;injection e3 with e3 e4;refine⟨b',d,f,by simp_all,fun i hi=>?_⟩;rw [xX (Qj _ _ _ _ (show b'≠b by lia))];exact m i hi
def pm:Prop:=∀(v pv dv:vO) (t:Tg) (L:Lp) (P:Int) (T D:Li) (w:wO),zI w v L->Xs w pv P T->zM w dv D->zZ L t P T->ZN L t D->Cp 96 #[v,.agg t.cells,pv,dv] w (sy L t P T D w)
def zn (L:Lp) (t:Tg) (P:Int) (T:Li) (w:wO) (e:Ending) (w':wO):Prop :=
 Bw w w'/\∃k0 k1 kv c,e=.returned (.tuple #[.agg #[J k0,J k1,kv],J c]) /\
  ((c=1/\kv=.slice none 0 0/\kU L t P T none) \/
   (c=0/\∃D,yQ w' (.agg #[J k0,J k1,kv]) (Zy L t P T D)/\kU L t P T (some (Zy L t P T D))))
def I7 (hR:pS) (hE:pm) (t:Tg) (L:Lp) (a0 h j:Option Addr) (k m n:Nat) (P:Int) (T:Li) (ta:Option Addr) (u tc:Nat) (w:wO)
  (hL:zI w ((lv L a0 h j k m n)) L) (hP:Xs w (.agg #[J P,.slice ta u tc]) P T) (G:zZ L t P T) :
  Cp 53 #[(lv L a0 h j k m n),(tV t),.agg #[J P,.slice ta u tc]] w fun e w'=>zn L t P T w e w':=by
 have HL:=Z hL;have HP:=Z hP;have dL:=Z (fun W (B:Bw w W)=>hR _ _ t L P T W (HL.gE B) (HP.gE B) G);have dx:=Z (fun W dv D (B:Bw w W) (A:zM W dv D) x=>hE _ _ dv t L P T D W (HL.gE B) (HP.gE B) A G x);have aC:=Z G;obtain⟨g,q⟩:=nm ((((w.alloc (lC L a0 h j k m n)).alloc (tO t)).alloc (.cells #[J P,.slice ta u tc] 110)).alloc (kB 0 0 none 0 0));have K:Hid (Bw w g):=q ▸ ((QJ _ _ _ _).alloc sO _)
 have cL:Hid (g.heap.size=w.heap.size+4):=by show _=_;rw [<-q];simp
 have e1:(w.alloc (lC L a0 h j k m n)).heap.size=w.heap.size+1:=sM
 have e2:((w.alloc (lC L a0 h j k m n)).alloc (tO t)).heap.size=w.heap.size+1+1:=sM
 have e3:(((w.alloc (lC L a0 h j k m n)).alloc (tO t)).alloc (.cells #[J P,.slice ta u tc] 110)).heap.size=w.heap.size+1+1+1:=sM
 have M:Hid (∀y,Bw g y->((y.cell? (E w.heap.size 0)=some (.slice a0 L.l.length k)/\y.cell? (E w.heap.size 1)=some (.slice h L.b.length m)/\y.cell? (E w.heap.size 2)=some (.slice j L.o.length n))/\(y.cell? (E (w.heap.size+1) 0)=Y t.u0/\y.cell? (E (w.heap.size+1) 1)=Y t.u1/\y.cell? (E (w.heap.size+1) 2)=Y t.u2/\y.cell? (E (w.heap.size+1) 3)=Y t.w0/\y.cell? (E (w.heap.size+1) 4)=Y t.w1/\y.cell? (E (w.heap.size+1) 5)=Y t.w2/\y.cell? (E (w.heap.size+1) 6)=Y t.r)/\(y.cell? (E (w.heap.size+1+1) 0)=Y P/\y.cell? (E (w.heap.size+1+1) 1)=some (.slice ta u tc)))/\y.heap[w.heap.size+1+1+1]?=some (kB 0 0 none 0 0)):=fun y p=>by
  have hs:=cL.o;have b3:y.heap[w.heap.size+1+1+1]?=some (kB 0 0 none 0 0):=by rw [p.block _ oM,<-q,<-e3];exact zm _ _ _
  have b2:y.heap[w.heap.size+1+1]?=some (.cells #[J P,.slice ta u tc] 110 (0,0)):=by rw [p.block _ oM,<-q,Qr _ _ _ oM,<-e2];exact zm _ _ _
  have b1:y.heap[w.heap.size+1]?=some (tO t):=by rw [p.block _ oM,<-q,Qr _ _ _ oM,Qr _ _ _ oM,<-e1];exact zm _ _ _
  have b0:y.heap[w.heap.size]?=some (lC L a0 h j k m n):=by rw [p.block _ oM,<-q,Qr _ _ _ oM,Qr _ _ _ oM,Qr _ _ _ oM];exact zm _ _ _
  refine⟨⟨⟨?_,?_,?_⟩,⟨?_,?_,?_,?_,?_,?_,?_⟩,?_,?_⟩,b3⟩;all_goals first | (rw [Qa b0];rfl) | (rw [Qa b1];rfl) | (rw [Qa b2];rfl)
 have O:Hid (∀y,Bw g y->w.heap.size+4<=y.heap.size):=fun y p=>by have:=p.size;have:=cL.o;omega
 obtain⟨⟨⟨l0,l1,l2⟩,⟨t0,t1,t2,t3,t4,t5,t6⟩,V,X⟩,-⟩:=M g (QA _ _);have ek:=O g (QA _ _);clear hL hP G e1 e2 e3;go_enter func53,ntmps53;go_wp2_with fail;apply (dL g K).mono;rintro e f ⟨hb,da,dl,dc,c,rfl,bV⟩;have z:=Z hb;clear hb l0 l1 l2 t0 t1 t2 t3 t4 t5 t6 V X ek q;obtain⟨⟨⟨l0,l1,l2⟩,⟨t0,t1,t2,t3,t4,t5,t6⟩,V,X⟩,a⟩:=M f z;have ef:=O f z;rcases bV with ⟨rfl,rfl,s⟩ | ⟨rfl,D,A,s⟩
 ·have k0:f.c (w.heap.size+1+1+1) 0=Y 0:=cb a
  have k1:f.c (w.heap.size+1+1+1) 1=Y 0:=cb a
  have k2:f.c (w.heap.size+1+1+1) 2=some sN:=cb a
  have f0:f.frozen? (E (w.heap.size+1+1+1) 0)=false:=qZ a
  have f1:f.frozen? (E (w.heap.size+1+1+1) 1)=false:=qZ a
  have f2:f.frozen? (E (w.heap.size+1+1+1) 2)=false:=qZ a
  have HF:Hid (∀y,Bw w y->zn L t P T w (.returned (.tuple #[.agg #[J 0,J 0,sN],J 1])) y):=fun y p=>⟨p,0,0,_,1,rfl,.inl ⟨rfl,rfl,none,s,rfl⟩⟩;have H:Hid (Bw w f):=K.tm z;have F:=Z a;have Q:=Z (za (a':=J 0) (b':=J 0) (d':=sN) a);clear a s;go_wp2;obtain⟨R,S,U⟩:=Q;exact bodyPost_ret (v:=.tuple #[.agg #[J 0,J 0,sN],J 1]) (by simp [results,results53,go_sem,R,S,U]) rfl (HF _ (((H.setCell rQ _).setCell rQ _).setCell rQ _))
 have HD:=Z A;have x:=s.dests aC;have H:Hid (Bw w f):=K.tm z;obtain⟨da2,dc2,dU,-⟩:=id A;injection dU with d1 d2 d3;subst d1;subst d2;subst d3;have cX:nE L t P T D=Zy L t P T D/\nF L t P T D=0:=by unfold nE nF;rw [aC,x];exact⟨rfl,rfl⟩
 have cg:=Z cX;have dM:=Z s;clear s;have dy:=Z (dx f _ D H HD x);clear A x cX a;go_wp2_with fail;apply dy.mono;rintro e d ⟨N,k0,k1,kv,rfl,I⟩;rw [cg.1] at I;rw [cg.2];have bY:=Z N;have cS:Hid (Bw g d):=z.tm N;obtain⟨-,a⟩:=M d cS;have eh:=O d cS;have HK:=Z I;obtain⟨kl,aD,ka,kc,rfl,-⟩:=id I;simp only [El,Ex,W9,and_true] at aD;obtain⟨-,-,rfl⟩:=aD;have c0:d.c (w.heap.size+1+1+1) 0=Y 0:=cb a
 have c1:d.c (w.heap.size+1+1+1) 1=Y 0:=cb a
 have c2:d.c (w.heap.size+1+1+1) 2=some sN:=cb a
 have f0:d.frozen? (E (w.heap.size+1+1+1) 0)=false:=qZ a
 have f1:d.frozen? (E (w.heap.size+1+1+1) 1)=false:=qZ a
 have f2:d.frozen? (E (w.heap.size+1+1+1) 2)=false:=qZ a
 have F:=Z a;generalize C:(Zy L t P T D).ops.length=kn at *
 have Q:=Z (za (a':=J k0) (b':=J k1) (d':=.slice ka kn kc) a);have eq:=Z C;clear l0 l1 l2 t0 t1 t2 t3 t4 t5 t6 V X N I a C;go_wp2;obtain⟨R,S,U⟩:=Q;apply bodyPost_ret (v:=.tuple #[.agg #[J k0,J k1,.slice ka kn kc],J 0]) (by simp [results,results53,go_sem,R,S,U]) rfl;have aS:Bw w d:=H.tm bY;refine⟨((aS.setCell rQ _).setCell rQ _).setCell rQ _,k0,k1,_,0,rfl,.inr ⟨rfl,D,?_,some D,dM.o,rfl⟩⟩;have h1:=HK.o.set (i:=0) F.o (by show 3<10;omega) (J k0);have b1:(d.st (w.heap.size+1+1+1) 0 (J k0)).heap[w.heap.size+1+1+1]?=some (kB k0 0 none 0 0):=by simp [World.setCell,QC,F.o]
 have h2:=h1.set (i:=1) b1 (by show 3<10;omega) (J k1);have b2:((d.st (w.heap.size+1+1+1) 0 (J k0)).st (w.heap.size+1+1+1) 1 (J k1)).heap[w.heap.size+1+1+1]?=some (kB k0 k1 none 0 0):=by simp [World.setCell,QC,F.o]
 exact h2.set (i:=2) b2 (by show 3<10;omega) _
def I8 (n:Nat) (x:wO) (hn:n<=16):Cp 54 #[J (n:Int)] x fun e w'=>e=.returned (.slice (pA x.heap.size) n n)/\Bw x w'/\zM w' (.slice (pA x.heap.size) n n) (X8 n):=by
 have l:=run_make_row' (P:=prog) 34 3 (J 0) 8 underlying34 Tryz.j3 rfl .i64 .i64 n oM oM;have c:Hid (zr (x.alloc (.cells (madeCells #[J 0] n) 3)) x.z 3 n (fun v=>J (if v<0 then (v:Int) else 0))):=zr.zeros x _ n _;have f:Hid (Bw x (x.alloc (.cells (madeCells #[J 0] n) 3))):=Qd _ _;go_enter func54,ntmps54;go_wp2;go_loopw [9] (fun i wr=>∃k:Nat,k<=n/\i=J k/\Bw x wr/\zr wr x.z 3 n (fun v=>J (if v<k then (v:Int) else 0))) (fun i _=>n - (intOf i).toNat)
 case atStart=>exact⟨0,oM,rfl,f,c⟩
 clear c f l;obtain⟨k,q,rfl,b,a⟩:=hrel;have d:=Z b;have m:=Z a;by_cases h:k<n
 ·have j:(k:Int)<(n:Int):=oM
  have o:wr.c x.z k=Y 0:=by grind [zr.cell]
  have r:=a.lt;have p:=a.frozen k;clear b a;go_wp2;go_roundw
  case rel =>
   refine⟨k+1,oM,nQ,d.setCell (Qc _) _,(m.set k _ h).congr fun i hi=>?_⟩;grind
  simp [intOf];omega
 have e:k=n:=oM
 subst e;have j:¬(k:Int)<(k:Int):=oM
 have g:Hid (zM wr (vP x.z k k) (X8 k)):=by
  refine⟨some (E x.z 0),k,by rw [qT],by grind [qT],mL,fun i hi=>?_,fun _=>⟨x.z,0,rfl,a.lt,fun i hi=>?_⟩⟩
  ·grind [qT,DA]
  grind [qT,DA,zr.cell]
 clear b a;go_wp2;go_ret;exact ⟨rfl,d,g⟩
section
attribute [local go_sem] Oper.semAt_some
def yQ.ck (h:yQ A v K) (k:Ck A B):yQ B v K:=by obtain⟨kv,e,a,cap,g,h1,m,n⟩:=h;refine⟨kv,e,a,cap,g,h1,m,fun q=>?_⟩;obtain⟨b,c,l,o,p⟩:=n q;refine⟨b,c,l,Qu o k.size,fun i hi j f=>?_⟩;have d:=p i hi j f;obtain⟨u,r⟩:∃u,(yZ (zv K.ops i))[j]?=some u:=⟨_,WA (show j<(yZ (zv K.ops i)).size from f)⟩;rw [r] at d ⊢;exact k.cell _ _ d
def nD (B:Nat) (w:wO) (v:vO) (zs:Li):Prop:=zM w v zs/\∀a n c,v=.slice (some a) n c->B<=a.block
def po (L:Lp) (t:Tg) (w:wO) (e:Ending) (w':wO):Prop :=
 Bw w w'/\∃k0 k1 kv oa ol oc c,e=.returned (.tuple #[.agg #[J k0,J k1,kv],.slice oa ol oc,J c]) /\
  ((zQ L && zS t)=false->c=2/\ol=0/\yQ w' (.agg #[J k0,J k1,kv]) ⟨0,0,[]⟩) /\
  ((zQ L && zS t)->(c=1/\ol=0/\yQ w' (.agg #[J k0,J k1,kv]) ⟨0,0,[]⟩/\yN L t 1 none)\/(c=0/\∃K,yQ w' (.agg #[J k0,J k1,kv]) K/\nD w.heap.size w' (.slice oa ol oc) (X8 L.b.length)/\yN L t 1 (some K)))
def Aa (w:wO):yQ w (.agg #[J 0,J 0,.slice none 0 0]) ⟨0,0,[]⟩:=⟨_,rfl,none,0,rfl,Qc _,Ql _,fun h=>absurd h (qC _)⟩
def I9 (h:zZ L t P T):yv P T L.b.length*P<=1200:=by
 obtain⟨hm,d,g,f,hlen,hT,-⟩:=yw h;have h1:yv P T L.b.length<=1000 / P+1:=uq P T _ (by have:=WY (show (0:Int)<=1000 by lia) (show 0<=P by lia);lia) _ fun s hs=>by have a:=zq hT s (by lia);unfold VS at a;simp only [Qg,QE] at a;have c:=zH.1 a.1;have i:=Int.ediv_le_ediv (show 0<P by lia) c.2;lia
 have a:=Wx h1 (show 0<=P by lia);have c:=Int.ediv_mul_le 1000 (show P≠0 by lia);grind
def Ja {D:Li} (a:zZ L t P T) (d:P<=xU L t):(ZL L t:Int)<=(Zy L t P T D).pc/\(xS L t:Int)<=(Zy L t P T D).pc/\(Zy L t P T D).pc<=xU L t/\(Zy L t P T D).st*(Zy L t P T D).pc<=1200:=by
 obtain⟨-,-,f,-,-⟩:=yw a;have c:((P.toNat:Nat):Int)=P:=WH lI;have b:zZ L t (P.toNat:Int) T:=by rw [c];exact a
 have g:=BA b;have h:=Bz b;exact⟨by show _<=P;lia,by show _<=P;lia,d,I9 a⟩
def Ab {a b c d p1 p2 f g i r:vO} (h:Below (w.heap.size+5) (((((w.alloc (.cells #[a,b,c] 62)).alloc (.cells #[d,p1,p2,f,g,i,r] 27)).alloc (kB 0 0 none 0 0)).alloc (.cells #[.slice none 0 0] 34)).alloc (.cells #[J 0] 63)) y) :
  y.heap[w.heap.size]?=some (.cells #[a,b,c] 62 (0,0))/\y.heap[w.heap.size+1]?=some (.cells #[d,p1,p2,f,g,i,r] 27 (0,0))/\y.heap[w.heap.size+1+1]?=some (kB 0 0 none 0 0)/\y.heap[w.heap.size+1+1+1]?=some (.cells #[.slice none 0 0] 34 (0,0))/\y.heap[w.heap.size+1+1+1+1]?=some (.cells #[J 0] 63 (0,0)):=by
 have j:(w.alloc (.cells #[a,b,c] 62)).z=w.z+1:=sM
 have k:((w.alloc (.cells #[a,b,c] 62)).alloc (.cells #[d,p1,p2,f,g,i,r] 27)).z=w.z+1+1:=sM
 have l:(((w.alloc (.cells #[a,b,c] 62)).alloc (.cells #[d,p1,p2,f,g,i,r] 27)).alloc (kB 0 0 none 0 0)).z=w.z+1+1+1:=sM
 have m:((((w.alloc (.cells #[a,b,c] 62)).alloc (.cells #[d,p1,p2,f,g,i,r] 27)).alloc (kB 0 0 none 0 0)).alloc (.cells #[.slice none 0 0] 34)).z=w.z+1+1+1+1:=sM
 refine⟨?_,?_,?_,?_,?_⟩;all_goals rw [h.block _ lI]
 ·rw [Qr _ _ _ lI,Qr _ _ _ lI,Qr _ _ _ lI,Qr _ _ _ lI];exact zm _ _ _
 ·rw [Qr _ _ _ lI,Qr _ _ _ lI,Qr _ _ _ lI,<-j];exact zm _ _ _
 ·rw [Qr _ _ _ lI,Qr _ _ _ lI,<-k];exact zm _ _ _
 ·rw [Qr _ _ _ lI,<-l];exact zm _ _ _
 grind [zm]
def Ac (w:wO) (g h i b p1 p2 c d f r:vO):∃W,((((w.alloc (.cells #[g,h,i] 62)).alloc (.cells #[b,p1,p2,c,d,f,r] 27)).alloc (kB 0 0 none 0 0)).alloc (.cells #[.slice none 0 0] 34)).alloc (.cells #[J 0] 63)=W/\W.heap.size=w.heap.size+5/\Bw w W/\(∀y,Bw W y->y.heap[w.heap.size+1+1]?=some (kB 0 0 none 0 0)/\y.heap[w.heap.size+1+1+1]?=some (.cells #[.slice none 0 0] 34 (0,0))/\y.heap[w.heap.size+1+1+1+1]?=some (.cells #[J 0] 63 (0,0)))/\∀y,Bw W y->(y.cell? (E w.heap.size 0)=some g/\y.cell? (E w.heap.size 1)=some h/\y.cell? (E w.heap.size 2)=some i)/\(y.cell? (E (w.heap.size+1) 0)=some b/\y.cell? (E (w.heap.size+1) 1)=some p1/\y.cell? (E (w.heap.size+1) 2)=some p2/\y.cell? (E (w.heap.size+1) 3)=some c/\y.cell? (E (w.heap.size+1) 4)=some d/\y.cell? (E (w.heap.size+1) 5)=some f/\y.cell? (E (w.heap.size+1) 6)=some r)/\w.heap.size+5<=y.heap.size:=by
 have hs:(((((w.alloc (.cells #[g,h,i] 62)).alloc (.cells #[b,p1,p2,c,d,f,r] 27)).alloc (kB 0 0 none 0 0)).alloc (.cells #[.slice none 0 0] 34)).alloc (Ia 0 63)).z=w.z+5:=sM
 refine⟨_,rfl,hs,((QJ _ _ _ _).alloc (by simp;lia) _).alloc (by simp;lia) _,fun y a=>(Ab (by rw [<-hs];exact a)).2.2,fun y a=>?_⟩;obtain⟨b0,b1,-⟩:=Ab (by rw [<-hs];exact a);have:=a.size;refine⟨⟨?_,?_,?_⟩,⟨?_,?_,?_,?_,?_,?_,?_⟩,lI⟩;all_goals first | (rw [Qa b0];rfl) | (rw [Qa b1];rfl)
def pu (L:Lp) (t:Tg) (w W:wO):Prop:=Bw w W/\∃k0 k1 kv ov K,W.heap[w.heap.size+1+1]?=some (.cells #[J k0,J k1,kv] 75 (0,0))/\W.heap[w.heap.size+1+1+1]?=some (.cells #[ov] 34 (0,0))/\W.heap[w.heap.size+1+1+1+1]?=some (.cells #[J 0] 63 (0,0)) /\
 yQ W (.agg #[J k0,J k1,kv]) K/\nD w.heap.size W ov (X8 L.b.length)/\yN L t 1 (some K)
def pu.put {l:Nat} {a:Obj} (h:pu L t w A) (k:w.heap.size+5<=l) (hA:A.heap[l]?=some o) (j:o.isCells=false):pu L t w (A.putObj l a):=by obtain⟨hb,k0,k1,kv,ov,K,h1,d,f,g,b,i⟩:=h;have c:=Ck.put a hA j;exact⟨hb.t (tj a hA lI),k0,k1,kv,ov,K,(World.putObj_heap_other lI).t h1,(World.putObj_heap_other lI).t d,(World.putObj_heap_other lI).t f,g.ck c,⟨b.1.ck c,b.2⟩,i⟩
def sw {B:Nat} {r u0 u1 u2 u3:vO} (h0:y.heap[B+1+1]?=some (.cells #[k0,k1,kv] ta (0,0))) (h1:y.heap[B+1+1+1]?=some (.cells #[ov] tb (0,0))) (s:y.heap[B+1+1+1+1]?=some (.cells #[r] tc (0,0))) (hb:Below n w y) (hn:n<=B) :
  ∃ V,((((y.setCell (E (B+1+1) 0) u0).setCell (E (B+1+1) 1) u1).setCell (E (B+1+1) 2) u2).setCell (E (B+1+1+1) 0) u3).setCell (E (B+1+1+1+1) 0) c=V/\Below n w V/\(V.heap.size=y.heap.size/\∀k,B+5<=k->V.heap[k]?=y.heap[k]?)/\(V.heap[B+1+1]?=some (.cells #[u0,u1,u2] ta (0,0))/\V.heap[B+1+1+1]?=some (.cells #[u3] tb (0,0))/\V.heap[B+1+1+1+1]?=some (.cells #[c] tc (0,0))) /\
    (∀v K,yQ y v K->yQ V v K)/\(∀g m q T,B+5<=g->zM y (.slice (pA g) m q) T->zM V (.slice (pA g) m q) T):=by
 have b1:∀{x:wO} {g i:Nat} {e:TypeId} {d:Array vO} {u:vO},x.heap[g]?=some (.cells d e (0,0))->(x.st g i u).heap[g]?=some (.cells (d.setIfInBounds i u) e (0,0)):=fun h=>by simp [World.setCell,QC,h]
 have b2:∀{x:wO} {g k i:Nat} {o:Option Obj} {u:vO},x.heap[k]?=o->k≠g->(x.st g i u).heap[k]?=o:=fun h p=>by rw [Qj _ _ _ _ p];exact h
 have a:B+1+1+1≠B+1+1:=lI
 have b:B+1+1+1+1≠B+1+1:=lI
 have f:B+1+1+1+1≠B+1+1+1:=lI
 have j:=b2 (i:=2) (u:=u2) (b2 (i:=1) (u:=u1) (b2 (i:=0) (u:=u0) h1 a) a) a
 have l:=b2 (i:=0) (u:=u3) (b2 (i:=2) (u:=u2) (b2 (i:=1) (u:=u1) (b2 (i:=0) (u:=u0) s b) b) b) f
 refine⟨_,rfl,((((hb.setCell rQ _).setCell rQ _).setCell rQ _).setCell rQ _).setCell rQ _,⟨by simp [World.setCell],fun k p=>b2 (b2 (b2 (b2 (b2 rfl lI) lI) lI) lI) lI⟩,⟨b2 (b2 (b1 (b1 (b1 h0))) a.s) b.s,b2 (b1 j) f.s,b1 l⟩,fun v K h=>?_,fun g m q T t h=>?_⟩
 ·exact ((((h.set h0 (by show 3<10;lia) _).set (b1 h0) sM _).set (b1 (b1 h0)) sM _).set j (by show 1<10;lia) _).set l (by show 1<10;lia) _
 ·exact ((((h.set lI _ _).set lI _ _).set lI _ _).set lI _ _).set lI _ _
def Yb {B:Nat} (h0:V.heap[B+1+1]?=some (.cells #[k0,k1,kv] ta (0,0))) (h1:V.heap[B+1+1+1]?=some (.cells #[ov] tb (0,0))) (a:V.heap[B+1+1+1+1]?=some (.cells #[c] tc (0,0))) :
  V.cell? (E (B+1+1) 0)=some k0/\V.cell? (E (B+1+1) 1)=some k1/\V.cell? (E (B+1+1) 2)=some kv/\V.cell? (E (B+1+1+1) 0)=some ov/\V.cell? (E (B+1+1+1+1) 0)=some c:=by refine⟨?_,?_,?_,?_,?_⟩;all_goals first | (rw [Qa h0];rfl) | (rw [Qa h1];rfl) | (rw [Qa a];rfl)
def U2 {B:Nat} (h0:V.heap[B+1+1]?=some (.cells #[k0,k1,kv] ta (0,0))) (h1:V.heap[B+1+1+1]?=some (.cells #[ov] tb (0,0))) (a:V.heap[B+1+1+1+1]?=some (.cells #[c] tc (0,0))) :
  V.frozen? (E (B+1+1) 0)=false/\V.frozen? (E (B+1+1) 1)=false/\V.frozen? (E (B+1+1) 2)=false/\V.frozen? (E (B+1+1+1) 0)=false/\V.frozen? (E (B+1+1+1+1) 0)=false:=by refine⟨?_,?_,?_,?_,?_⟩ <;> simp [World.frozen?,h0,h1,a]
def Ad {B D:Nat} (h0:V.heap[B+1+1]?=some (.cells #[k0,k1,kv] ta (0,0))) (h1:V.heap[B+1+1+1]?=some (.cells #[ov] tb (0,0))) (a:V.heap[B+1+1+1+1]?=some (.cells #[c] tc (0,0))) (b:B+5<=D) :
  (V.putObj D o).cell? (E (B+1+1) 0)=some k0/\(V.putObj D o).cell? (E (B+1+1) 1)=some k1/\(V.putObj D o).cell? (E (B+1+1) 2)=some kv/\(V.putObj D o).cell? (E (B+1+1+1) 0)=some ov/\(V.putObj D o).cell? (E (B+1+1+1+1) 0)=some c :=
 Yb ((World.putObj_heap_other (show B+1+1≠D by lia)).t h0) ((World.putObj_heap_other (show B+1+1+1≠D by lia)).t h1) ((World.putObj_heap_other (show B+1+1+1+1≠D by lia)).t a)
def Jb (hM:pj) (hO:pk) (hR:pS) (hE:pm) (t:Tg) (L:Lp) (a0 j m:Option Addr) (p z C:Nat) (w:wO) (hm:zQ L) (ht:zS t)
  (hL:zI w ((lv L a0 j m p z C)) L) :
  Cp 24 #[(lv L a0 j m p z C),(tV t)] w fun e w'=>po L t w e w':=by
 obtain⟨W5,bO,aE,aR,aT,aU⟩:=Ac w (.slice a0 L.l.length p) (.slice j L.b.length z) (.slice m L.o.length C) (J t.u0) (J t.u1) (J t.u2) (J t.w0) (J t.w1) (J t.w2) (J t.r);have aJ:=Z aE;have ah:=Z aR;have ae:=Z aT;have af:=Z aU;clear aE aR aT aU;have HL:=Z hL;have bG:=Z (fun W (h:zI W ((lv L a0 j m p z C)) L)=>hm ▸ Yo _ L W h);have bL:=Z (fun W=>ht ▸ vw t W);obtain⟨⟨l0,l1,l2⟩,⟨t0,t1,t2,t3,t4,t5,t6⟩,hz⟩:=af W5 (QA _ _);have HM:=Z hm;have HT:=Z ht;clear hL hm ht;obtain⟨n,-⟩:∃n:Nat,True:=⟨3,trivial⟩;apply (callsIn_wide (n:=n)).1;refine callsIn_of_wp_marks func24 rfl trivial ?_ rfl;simp only [ntmps24,EG,Q5,List.length_nil,Nat.reduceAdd,Nat.reduceSub,Array.replicate_succ,Array.replicate_zero,List.push_toArray,List.append_toArray,W8,EM];gi_wp2_with fail;apply VW (bG W5 (HL.gE ah));rintro e x1 ⟨rfl,ao⟩;have ac:=Z ao;clear bO l0 l1 l2 t0 t1 t2 t3 t4 t5 t6 hz ao;obtain⟨⟨l0,l1,l2⟩,⟨t0,t1,t2,t3,t4,t5,t6⟩,hz⟩:=af x1 ac;gi_wp2_with fail;apply VW (bL x1);rintro e F ⟨rfl,ag⟩;have ai:Hid (Bw W5 F):=ac.tm ag;clear l0 l1 l2 t0 t1 t2 t3 t4 t5 t6 hz ag;obtain⟨⟨l0,l1,l2⟩,⟨t0,t1,t2,t3,t4,t5,t6⟩,hz⟩:=af F ai;gi_wp2_with fail;apply VW (I6 _ _ _ _ _ _ _ _ _ _ F);rintro e S ⟨rfl,rfl⟩;obtain⟨S,aW⟩:=nm ((F.alloc (lC L a0 j m p z C)).alloc (tO t));have aI:Hid (Bw F S):=aW ▸ QB _ _ _
 have aQ:Hid (Bw W5 S):=ai.tm aI;have aY:Hid (S.heap.size=F.heap.size+1+1):=by show _=_;rw [<-aW];simp
 have dw:Hid (S.heap[F.heap.size]?=some (lC L a0 j m p z C)):=by show _=_;rw [<-aW,Qr _ _ _ (by simp)];exact zm _ _ _
 have aO:Hid (S.heap[F.heap.size+1]?=some (tO t)):=by show _=_;rw [<-aW,<-World.size_alloc];exact zm _ _ _
 have dO:Hid (Bw w S):=ah.tm aQ;have dD:=Z (I5 hM hO t L a0 j m p z C S F.heap.size (F.heap.size+1) HM HT (HL.gE dO) dw aO);clear l0 l1 l2 t0 t1 t2 t3 t4 t5 t6 hz;gi_wp2_with fail;clear aW
 refine L9 (gf:=92) (lb:=#[.pointer (pA F.heap.size),.pointer (pA (F.heap.size+1))]) rfl (enters_of func92 (by kernel_rfl) rfl) dD.o rfl (fun la s x s' A B h k=>nC.ck h k) (fun s=>∀q,yN L t s q->yN L t 1 q) (fun _ h=>h)
  (yN L t 1 none) (pu L t w) ?res
  (fun x B=>{ tmps:=#[(lv L a0 j m p z C),(tV t),.pointer (pA w.heap.size),.pointer (pA (w.heap.size+1)),.pointer (pA (w.heap.size+1+1)),.pointer (pA (w.heap.size+1+1+1)),.pointer (pA (w.heap.size+1+1+1+1)),.pointer (pA B),undef,undef,(lv L a0 j m p z C),.bool true,.bool false,.bool false,(tV t),.bool true,.bool false,.bool false,undef,(lv L a0 j m p z C),(tV t),.func (.func 92) #[] #[.pointer (pA F.heap.size),.pointer (pA (F.heap.size+1))],mK x,undef,undef,undef,undef,undef,undef,undef,undef,undef,undef,undef,undef,undef,undef,undef],defers:=[] }) (fun x=>.cells #[J x.1,.slice x.2.1 x.2.2.1 x.2.2.2] 110 (0,0)) ?assign ?body ?done ?stop
 case res =>intro A l o o' h hl hA ho;have:=aY.o;have:=ai.o.size;have:=aJ.o;exact h.put (by omega) hA ho
 case assign =>
  intro l k x W K g;dsimp only [mK] at *
  gi_wp2_with fail;exact g
 case body =>
  rintro l k B la s ⟨P,ta,tl,tc⟩ s' W R aS ⟨T,hP,ab,cY,df⟩ hBs hB;dsimp only [mK] at *
  have N:Hid (Bw W5 W):=aQ.tm aS;obtain⟨⟨l0,l1,l2⟩,⟨t0,t1,t2,t3,t4,t5,t6⟩,hz⟩:=af W N;have b0:W.c B 0=Y P:=cb hB
  have b1:W.c B 1=some (.slice ta tl tc):=cb hB
  have dG:=Z (I7 hR hE t L a0 j m p z C P T ta tl tc W (HL.gE (ah.tm N)) hP ab);have aC:=Z ab;have au:=Z R;have cA:=Z cY;have cF:=Z df;clear R cY df;have dp:=Z aS;clear hP ab hB aS;gi_wp2_with fail;apply Ma dG;rintro e d ⟨hb,k0,k1,kv,c,rfl,hc⟩;have U:=Z hb;clear l0 l1 l2 t0 t1 t2 t3 t4 t5 t6 hz b0 b1 hb;rcases hc with ⟨rfl,rfl,aK⟩ | ⟨rfl,D,hk,aK⟩
  ·have cD:=Z aK;clear aK;gi_wp2_with fail;refine⟨U.tm (Qd _ _),fun h q hq=>?_,fun h=>?_⟩
   ·obtain⟨G,H,I,rfl⟩:=cA h;exact au q (.next s P T q G H I cD hq)
   obtain⟨G,H,I⟩:=cF h;exact au none (.last s none I (by rw [<-H,<-show P=_ from G];exact aC) (by rw [<-H,<-show P=_ from G];exact cD))
  obtain⟨kl,aD,ka,kc,rfl,-⟩:=id hk;simp only [El,Ex,W9,and_true] at aD;obtain⟨-,-,rfl⟩:=aD;have HK:=Z hk;have dn:Hid (yN L t 1 (some (Zy L t P T D))):=by
   cases la with
   | false=>obtain⟨G,H,I,-⟩:=cA rfl;exact au _ (.here s P T _ G H I aC aK)
   | true=>obtain⟨G,H,I⟩:=cF rfl;exact au _ (.last s _ I (by rw [<-H,<-show P=_ from G];exact aC) (by rw [<-H,<-show P=_ from G];exact aK))
  clear aK;generalize hkn:(Zy L t P T D).ops.length=O at *
  clear hk hkn;have cE:Hid (∀y:wO,Bw d y->(y.c w.heap.size 0=some (.slice a0 L.l.length p)/\y.c w.heap.size 1=some (.slice j L.b.length z)/\y.c w.heap.size 2=some (.slice m L.o.length C))):=fun y hy=>(af y (N.tm (U.tm hy))).1;gi_wp2_with fail;obtain⟨f,bC⟩:=nm (d.alloc (kB k0 k1 ka O kc));have X:Hid (Bw d f):=bC ▸ Qd _ _
  obtain⟨l0,l1,l2⟩:=cE f X.o;have aa:f.heap[d.heap.size]?=some (kB k0 k1 ka O kc):=bC ▸ zm _ _ _
  have c0:f.c d.heap.size 0=Y k0:=cb aa
  have c1:f.c d.heap.size 1=Y k1:=cb aa
  have c2:f.c d.heap.size 2=some (.slice ka O kc):=cb aa
  have dP:=(zy HM.o).2.2.1;have dC:Hid (Cp 54 #[J (L.b.length:Int)] f.drew fun e w'=>e=.returned (vP f.heap.size L.b.length L.b.length)/\Below f.heap.size f.drew w'/\zM w' (vP f.heap.size L.b.length L.b.length) (X8 L.b.length)):=I8 L.b.length f.drew dP;have aA:=Z aa;have eE:w.heap.size+5<=d.heap.size:=by have:=U.o.size;have:=N.o.size;have:=aJ.o;omega
  have cM:Hid (∀w':wO,Bw f w'->((w'.c w.heap.size 0=some (.slice a0 L.l.length p)/\w'.c w.heap.size 1=some (.slice j L.b.length z)/\w'.cell? (E w.heap.size 2)=some (.slice m L.o.length C))/\w'.cell? (E d.heap.size 0)=Y k0/\w'.cell? (E d.heap.size 1)=Y k1/\w'.cell? (E d.heap.size 2)=some (.slice ka O kc))):=fun w' h=>by have hb:=(h.block _ (lo aA)).t aA;refine⟨cE w' (X.tm h),?_,?_,?_⟩ <;> (rw [Qa hb];rfl)
  have aP:Hid (∀(v:wO) (b i:Nat) (u:vO),((v.c w.heap.size 0=some (.slice a0 L.l.length p)/\v.c w.heap.size 1=some (.slice j L.b.length z)/\v.c w.heap.size 2=some (.slice m L.o.length C))/\v.c d.heap.size 0=Y k0/\v.c d.heap.size 1=Y k1/\v.c d.heap.size 2=some (.slice ka O kc))->b≠w.heap.size->b≠d.heap.size->(((v.setCell (E b i) u).cell? (E w.heap.size 0)=some (.slice a0 L.l.length p)/\(v.setCell (E b i) u).cell? (E w.heap.size 1)=some (.slice j L.b.length z)/\(v.setCell (E b i) u).cell? (E w.heap.size 2)=some (.slice m L.o.length C))/\(v.setCell (E b i) u).cell? (E d.heap.size 0)=Y k0/\(v.setCell (E b i) u).cell? (E d.heap.size 1)=Y k1/\(v.setCell (E b i) u).cell? (E d.heap.size 2)=some (.slice ka O kc))):=fun v b i u h h1 h2=>by obtain⟨⟨e0,e1,e2⟩,e3,e4,e5⟩:=h;refine⟨⟨?_,?_,?_⟩,?_,?_,?_⟩;all_goals (rw [xX (Qj _ _ _ _ (Ne.s (by assumption)))];assumption)
  have gT:Hid (∀y,Bw f y->_):=fun y hy=>ae y (N.tm (U.tm (X.t (hy.mono X.size))));rw [bC];clear bC aa;refine Md 99 (fun w'=>((w'.c w.heap.size 0=some (.slice a0 L.l.length p)/\w'.c w.heap.size 1=some (.slice j L.b.length z)/\w'.c w.heap.size 2=some (.slice m L.o.length C))/\w'.c d.heap.size 0=Y k0/\w'.c d.heap.size 1=Y k1/\w'.c d.heap.size 2=some (.slice ka O kc))) (by kernel_rfl) (by kernel_rfl) (cM _ (Qm _ _ 1)) (fun h9=>?_);apply aq 0;apply aq 2;refine uo 4 fun K g=>?_;go_simp;apply dC.mono;rintro e y3 ⟨rfl,cW,cZ⟩;have aI:Hid (Bw f y3):=(Qm f.heap.size f 1).t cW;have dB:=Z cZ;have h9:=cM _ aI;clear cW cZ c0 c1 c2 l0 l1 l2;apply bq g.o (.inr h9);clear g K;obtain⟨Q,r1,r2⟩:=gT y3 aI;obtain⟨n0,n1,n2,n3,n4⟩:=Yb Q r1 r2;obtain⟨f0,f1,f2,f3,f4⟩:=U2 Q r1 r2;have eD:d.heap.size<f.heap.size:=(lo aA);have aM:Bw w W:=ah.tm N;have bP:Bw W y3:=U.tm (X.tm aI);have bI:=Z (sw (u0:=J k0) (u1:=J k1) (u2:=.slice ka O kc) (u3:=vP f.heap.size L.b.length L.b.length) (c:=J 0) Q r1 r2 (aM.tm bP) (Qc _));have cN:=Z bP;have M:Hid (∀k,2<=k->k<=4->w.heap.size+k≠w.heap.size/\w.heap.size+k≠d.heap.size):=fun k h1 h2=>by omega
  have H5:=Z (aP _ _ 2 (.slice ka O kc) (aP _ _ 1 (J k1) (aP _ _ 0 (J k0) h9 (M 2 (by omega) (by omega)).1 (M 2 (by omega) (by omega)).2) (M 2 (by omega) (by omega)).1 (M 2 (by omega) (by omega)).2) (M 2 (by omega) (by omega)).1 (M 2 (by omega) (by omega)).2);have H6:=Z (aP _ _ 0 (vP f.heap.size L.b.length L.b.length) H5 (M 3 (by omega) (by omega)).1 (M 3 (by omega) (by omega)).2);have H7:=Z (aP _ _ 0 (J 0) H6 (M 4 (by omega) (by omega)).1 (M 4 (by omega) (by omega)).2);clear aM bP Q r1 r2 h9;refine uo 5 fun K g=>?_;go_simp;apply bq g.o (.inr H5.o);clear g K;refine uo 6 fun K g=>?_;go_simp;apply bq g.o (.inr H6.o);clear g K;refine uo 7 fun K g=>?_;go_simp;apply bq g.o (.inr H7.o);clear g K;refine zj (by kernel_rfl) ?_ _;apply kJ.normal;gi_wp2_with fail;obtain⟨V,hV,aG,⟨eG,bS⟩,⟨v0,v1,v2⟩,bf,hIV⟩:=bI.o;rw [hV];have dm:=aY.o;have dj:=ai.o.size;have aE:=aJ.o;have eH:=cN.o.size;have eI:=dp.o.size;exact⟨by omega,fun q hq1 hq2=>(bS q (by omega)).t (cN.o.block q hq2),aG,k0,k1,_,_,(Zy L t P T D),v0,v1,v2,bf _ _ (HK.o.gE (X.o.tm aI.o)),⟨hIV _ _ _ _ (by omega) dB.o,fun a n c e=>by injection e with e1;injection e1 with e1;rw [<-e1];show w.heap.size<=f.heap.size;omega⟩,dn.o⟩
 case done =>intro D W hD hf hb g;have HF:=Z hf;have N:Hid (Bw W5 W):=aQ.o.tm hb;have aM:Bw w W:=ah.o.tm N.o;obtain⟨Q,r1,r2⟩:=ae.o W N.o;obtain⟨n0,n1,n2,n3,n4⟩:=Yb Q r1 r2;obtain⟨f0,f1,f2,f3,f4⟩:=U2 Q r1 r2;have bI:=Z (sw (u0:=J 0) (u1:=J 0) (u2:=sN) (u3:=sN) (c:=J 1) Q r1 r2 aM (Qc _));have HK:=Z g;have dt:=Z hD;clear hb aM Q r1 r2 g hf hD;gi_wp2_with fail;obtain⟨V,hV,aG,⟨-,bS⟩,⟨v0,v1,v2⟩,-⟩:=bI.o;rw [hV];have hd:=dt.o;have dm:=aY.o;have dj:=ai.o.size;have aE:=aJ.o;have bf:=(bS D (by omega)).t HK.o;obtain⟨g0,G,H,I,g4⟩:=Ad (o:=.deferred none) v0 v1 v2 (show w.heap.size+5<=D by omega);refine⟨by simp,.inl ⟨_,_,rfl,run_takeDeferred bf,?_⟩⟩;refine⟨.tuple #[.agg #[J 0,J 0,sN],sN,J 1],by simp [results,results24,go_sem,g0,G,H,I,g4],aG.t (tj _ bf (by omega)),0,0,_,none,0,0,1,rfl,fun h=>?_,fun _=>.inl ⟨rfl,rfl,Aa _,HF.o⟩⟩;rw [HM.o,HT.o] at h;cases h
 case stop =>intro D W hD hr g;obtain⟨hb,k0,k1,kv,ov,K,h0,h1,h2,hk,hi,dT⟩:=hr;gi_wp2_with fail;have dm:=aY.o;have dj:=ai.o.size;have aE:=aJ.o;obtain⟨g0,G,H,I,g4⟩:=Ad (o:=.deferred none) h0 h1 h2 (show w.heap.size+5<=D by omega);have hc:=Ck.put (.deferred none) g rfl;obtain⟨oa,oc,rfl,ey⟩:=id hi.1;refine⟨by simp,.inl ⟨_,_,rfl,run_takeDeferred g,?_⟩⟩;refine⟨.tuple #[.agg #[J k0,J k1,kv],.slice oa (X8 L.b.length).length oc,J 0],by simp [results,results24,go_sem,g0,G,H,I,g4],hb.t (tj _ g (by omega)),k0,k1,kv,oa,_,oc,0,rfl,fun h=>?_,fun _=>.inr ⟨rfl,K,hk.ck hc,⟨hi.1.ck hc,hi.2⟩,dT⟩⟩;rw [HM,HT] at h;cases h
def Jc (t:Tg) (L:Lp) (a0 p q:Option Addr) (F G H:Nat) (w:wO) (dg:(zQ L && zS t)=false)
  (hL:zI w ((lv L a0 p q F G H)) L) :
  Cp 24 #[(lv L a0 p q F G H),(tV t)] w fun e w'=>po L t w e w':=by
 obtain⟨n,bO,S,T,U,X⟩:=Ac w (.slice a0 L.l.length F) (.slice p L.b.length G) (.slice q L.o.length H) (J t.u0) (J t.u1) (J t.u2) (J t.w0) (J t.w1) (J t.w2) (J t.r);have aJ:=Z S;have ah:=Z T;have d:=Z U;have x:=Z X;clear S T U X;have HL:=Z hL;have cH:=Z dg;have cx:Hid (∀V:wO,Bw w V->po L t w (.returned (.tuple #[.agg #[J 0,J 0,sN],sN,J 2])) V):=fun V g=>⟨g,0,0,_,none,0,0,2,rfl,fun _=>⟨rfl,rfl,Aa _⟩,fun h=>absurd (cH.s.t h) sM⟩;have cJ:=Z (fun y a=>Yb (d y a).1 (d y a).2.1 (d y a).2.2);have cw:=Z (fun y a=>U2 (d y a).1 (d y a).2.1 (d y a).2.2);have cu:=Z (fun y a=>sw (u0:=J 0) (u1:=J 0) (u2:=sN) (u3:=sN) (c:=J 2) (d y a).1 (d y a).2.1 (d y a).2.2 (ah.tm a) (Qc _));have bG:=Z (Yo _ L n (HL.gE ah));have bL:=Z (fun W=>vw t W);obtain⟨⟨l0,l1,l2⟩,⟨I,K,M,N,O,P,Q⟩,m⟩:=x n (QA _ _);clear hL dg;go_enter func24,ntmps24;go_wp2_with fail;refine bG.mr fun i ao=>?_;have f:=Z ao;clear bO l0 l1 l2 I K M N O P Q m ao;obtain⟨⟨l0,l1,l2⟩,⟨I,K,M,N,O,P,Q⟩,m⟩:=x i f;obtain⟨n0,n1,n2,n3,n4⟩:=cJ i f;obtain⟨f0,f1,f2,f3,f4⟩:=cw i f;cases hm:zQ L with
 | false =>have u:=Z (cu i f);go_wp2;obtain⟨V,g,s,-,⟨v0,R,v2⟩,-⟩:=u;obtain⟨z,A,B,C,D⟩:=Yb v0 R v2;rw [g];exact bodyPost_ret (v:=.tuple #[.agg #[J 0,J 0,sN],sN,J 2]) (by simp [results,results24,go_sem,z,A,B,C,D]) rfl (cx _ s)
 | true =>
  have bT:zS t=false:=by have:=cH.o;rw [hm] at this;simpa using this
  have bM:=Z (bT ▸ bL i);clear hm bT;go_wp2_with fail;refine bM.mr fun j ag=>?_;have k:Hid (Bw n j):=f.tm ag;clear l0 l1 l2 I K M N O P Q m ag n0 n1 n2 n3 n4 f0 f1 f2 f3 f4;obtain⟨-,-,m⟩:=x j k;obtain⟨n0,n1,n2,n3,n4⟩:=cJ j k;obtain⟨f0,f1,f2,f3,f4⟩:=cw j k;have u:=Z (cu j k);go_wp2;obtain⟨V,g,s,-,⟨v0,R,v2⟩,-⟩:=u;obtain⟨z,A,B,C,D⟩:=Yb v0 R v2;rw [g];exact bodyPost_ret (v:=.tuple #[.agg #[J 0,J 0,sN],sN,J 2]) (by simp [results,results24,go_sem,z,A,B,C,D]) rfl (cx _ s)
def VX:Prop:=∀(v:vO) (t:Tg) (L:Lp) (w:wO),zI w v L->Cp 24 #[v,.agg t.cells] w (po L t w)
def Jd (p:pj) (q:pk) (hR:pS) (o:pm):VX:=fun v t L w f=>by
 have n:=f
 obtain⟨v0,s,v2,rfl,⟨a0,j,rfl,-⟩,⟨g,k,rfl,-⟩,⟨i,l,rfl,-⟩⟩:=n
 obtain⟨a,p1,p2,b,c,d,r⟩:=t
 by_cases h:(zQ L && zS ⟨a,p1,p2,b,c,d,r⟩)
 ·have m:zQ L/\zS ⟨a,p1,p2,b,c,d,r⟩:=by simpa using h
  exact Jb p q hR o ⟨a,p1,p2,b,c,d,r⟩ L a0 g i j k l w m.1 m.2 f
 ·exact Jc ⟨a,p1,p2,b,c,d,r⟩ L a0 g i j k l w (by simpa using h) f
end
end
section
variable {t:Tg} {tx a b:Li}
def ex:Li:=[111,107]
def ZV:Li:=[63]
def Uu:Li:=[110,111,110,101]
def jl:Li:=[98,97,100]
def yK:Li:=[102,114,101,115,104]
def zW:Li:=[109,97,99,104,105,110,101]
def yz:Li:=[101,100,103,101,115]
def yx:Li:=[98,111,117,110,100]
def yy:Li:=[98,117,105,108,100]
def yM:Li:=[116,117,114,110,115]
def yV (s:Li):Li->Li
 | []=>s
 | n :: l=>yV ((if s=[] then s else s++[32])++zo n) l
def jb (s:Li):Option Int:=if (1<=s.length/\s.length<=6)/\¬(s.head?=some 48/\1<s.length)/\(∀c∈s,48<=c/\c<=57) then some (Xa s) else none
def xB:List Li->Option Li
 | []=>some []
 | s :: l=>match jb s with
   | none=>none
   | some n=>match xB l with
     | none=>none
     | some ns=>some (n :: ns)
def hC (ns:Li):Tg:=⟨ak ns 0,ak ns 1,ak ns 2,ak ns 3,ak ns 4,ak ns 5,ak ns 6⟩
def ZM (L:Lp):List Li:=L.b.map fun _=>[0,0,0]
def ZQ (L:Lp):List Li:=L.l.map fun g=>List.replicate (2 ^ g.toNat) 0
def kN (L:Lp) (t:Tg) (K:Kn):Li:=if yg L t K (X8 L.b.length)=true then U7 L t K (X8 L.b.length) (ZM L) else []
def lW (L:Lp) (t:Tg) (K:Kn) (n:Int):Li:=if yg L t K (X8 L.b.length)=true then nw (kN L t K).length (UW t K (zK (ZQ L)) n (kN L t K) (ZQ L)) else []
def jo (L:Lp) (t:Tg) (K:Kn) (n:Int):Li:=if yg L t K (X8 L.b.length)=true then Zm L t K (X8 L.b.length) (ZM L) (lW L t K n) n else []
def XG (L:Lp) (n:Int):Li:=Zg L (ZM L) n.toNat (kA L (ZM L) n.toNat (XO (ZQ L)))
def lD (K:Kn):Li:=K.ops.foldl (fun s o=>yV s [o.sl,o.sg,o.d]) (yV [] [K.pc,K.st])
def ku (L:Lp) (t:Tg) (K:Kn) (n:Int):Li:=yV ((if yV [] (XG L n)=[] then yV [] (XG L n) else yV [] (XG L n)++[32])++[58]) (jo L t K n)
def UC (t:Tg) (tx Y0:Li) (n:Int) (a:Li):Prop :=
 if (yt tx).2.1≠0 then a=yV jl [((yt tx).2.2:Int)]
 else if Y0=yz then a=yV [] [((zf (yt tx).1 t).length:Int)]
 else if Y0=yx then a=yV [] [(ZL (yt tx).1 t:Int),(xS (yt tx).1 t:Int)]
 else if Y0=yy then ∃r,yN (yt tx).1 t 1 r/\a=match r with
  | none=>Uu
  | some K=>lD K
 else if br n 0 200=false then a=ZV
 else ∃r,yN (yt tx).1 t 1 r/\a=match r with
  | none=>Uu
  | some K=>ku (yt tx).1 t K n
def UC.unique {Y0:Li} {n:Int} (h:UC t tx Y0 n a) (k:UC t tx Y0 n b):a=b:=by
 unfold UC at h k;by_cases g:(yt tx).2.1≠0
 ·simp_all
 rw [Qe g] at h k;by_cases i:Y0=yz
 ·simp_all
 rw [Qe i] at h k;by_cases j:Y0=yx
 ·simp_all
 rw [Qe j] at h k;by_cases f:Y0=yy
 ·rw [Qf f] at h k;obtain⟨r,h1,c⟩:=h;obtain⟨m,k1,d⟩:=k;rw [c,d,h1.unique k1]
 rw [Qe f] at h k;by_cases l:br n 0 200=false
 ·simp_all
 rw [Qe l] at h k;obtain⟨r,h1,c⟩:=h;obtain⟨m,k1,d⟩:=k;rw [c,d,h1.unique k1]
def Z7 (t:Tg) (tx l a:Li) (t':Tg) (tx':Li):Prop :=
 if l.take 2=[61,32] then a=yV ex [((tx++l.drop 2++[10]).length:Int)]/\t'=t/\tx'=tx++l.drop 2++[10]
 else if l=yK then a=ex/\t'=t/\tx'=[]
 else match xB (zx 32 l).tail with
  | none=>a=ZV/\t'=t/\tx'=tx
  | some ns =>
    if (zx 32 l).headD []=zW/\ns.length=7 then (if zS (hC ns)=true then a=ex/\t'=hC ns/\tx'=tx else a=ZV/\t'=t/\tx'=tx)
    else if l=yz\/l=yx\/l=yy then UC t tx l 0 a/\t'=t/\tx'=tx
    else if (zx 32 l).headD []=yM/\ns.length=1 then UC t tx yM (ak ns 0) a/\t'=t/\tx'=tx
    else a=ZV/\t'=t/\tx'=tx
def uN {α β γ:Type} {a a' x:α} {b b' y:β} {c c' z:γ} (h:a=x/\b=y/\c=z) (k:a'=x/\b'=y/\c'=z):a=a'/\b=b'/\c=c':=rQ
def Z7.unique {l:Li} {j m:Tg} {n o:Li} (h:Z7 t tx l a j n) (k:Z7 t tx l b m o):a=b/\j=m/\n=o:=by
 unfold Z7 at h k;by_cases p:l.take 2=[61,32]
 ·simp_all
 rw [Qe p] at h k;by_cases q:l=yK
 ·simp_all
 rw [Qe q] at h k;cases f:xB (zx 32 l).tail with
 | none=>rw [f] at h k;exact uN h k
 | some d =>
  rw [f] at h k;dsimp only at h k;by_cases g:(zx 32 l).headD []=zW/\d.length=7
  ·rw [Qf g] at h k;by_cases c:zS (hC d)
   ·simp_all
   simp_all
  rw [Qe g] at h k;by_cases c:l=yz\/l=yx\/l=yy
  ·rw [Qf c] at h k;exact⟨h.1.unique k.1,h.2.1.t k.2.1.s,h.2.2.t k.2.2.s⟩
  rw [Qe c] at h k;by_cases i:(zx 32 l).headD []=yM/\d.length=1
  ·rw [Qf i] at h k;exact⟨h.1.unique k.1,h.2.1.t k.2.1.s,h.2.2.t k.2.2.s⟩
  rw [Qe i] at h k;exact uN h k
def Ya:Tg->Li->List Li->Li->Prop
 | _,_,[],ans=>ans=[]
 | t,tx,l :: ls,ans=>∃a t' tx' rest,Z7 t tx l a t' tx'/\Ya t' tx' ls rest/\ans=a++10 :: rest
def Ya.unique:∀{c:List Li} {t:Tg} {tx a b:Li},Ya t tx c a->Ya t tx c b->a=b
 | [],_,_,_,_,h,k=>by rw [h,k]
 | l :: c,t,tx,a,b,h,k=>by
   obtain⟨g,j,n,r1,h1,d,rfl⟩:=h
   obtain⟨i,m,o,r2,k1,f,rfl⟩:=k
   obtain⟨rfl,rfl,rfl⟩:=h1.unique k1
   rw [Ya.unique d f]
def Ya.app:∀{l1 l2:List Li} {t:Tg} {tx a b:Li},Ya t tx l1 a->Ya t tx (l1++l2) b->∃c,b=a++c
 | [],l2,t,tx,a,b,h,k=>⟨b,by rw [h];rfl⟩
 | l :: j,l2,t,tx,a,b,h,k=>by
   obtain⟨g,m,o,r1,h1,d,rfl⟩:=h
   obtain⟨i,n,p,r2,k1,f,rfl⟩:=k
   obtain⟨rfl,rfl,rfl⟩:=h1.unique k1
   obtain⟨c,rfl⟩:=Ya.app d f
   exact⟨c,sM⟩
def Vh (ls:List Li):List Li:=if ls.getLast?=some [] then ls.dropLast else ls
def nf (s:Li):List Li:=(Vh (zx 10 s)).take 60
def lE:Tg:=⟨2,1,1,1,3,2,32⟩
def Vx (s ans:Li):Prop:=Ya lE [] (nf s) ans
def Vx.unique {s:Li} (h:Vx s a) (k:Vx s b):a=b:=Ya.unique h k
def oL (x:Int):∀(a b:Li),zx x (a++x :: b)=zx x a++zx x b
 | [],b=>by rw [W8,XN];rfl
 | c :: a,b=>by
   by_cases e:c=x
   ·subst e
    simp [XN,oL]
   ·cases hs:zx x a with
    | nil=>exact absurd hs (xQ x a)
    | cons p d =>
      have h:=oL x a b
      rw [hs,EM] at h
      rw [EM,ZJ e h,ZJ e hs];rfl
def rt {a b:List Li} (hb:b≠[]):Vh (a++b)=a++Vh b:=by
 unfold Vh;rw [List.getLast?_append];have h:b.getLast?.or a.getLast?=b.getLast?:=by
  cases h:b.getLast? with
  | none=>exact absurd (List.getLast?_eq_none_iff.1 h) hb
  | some x=>rfl
 grind
def Vx.on {x y:Li} (h:Vx (a++[10]) x) (k:Vx (a++[10]++b) y):∃c,y=x++c:=by
 unfold Vx nf at h k;have d:zx 10 (a++[10])=zx 10 a++[[]]:=by rw [oL 10 a []];rfl
 have f:zx 10 (a++[10]++b)=zx 10 a++zx 10 b:=by simp [oL]
 rw [d,rt sM] at h;rw [f,rt (xQ 10 b)] at k;have g:Vh [[]]=[]:=rfl;rw [g,WJ] at h;rw [List.take_append] at k;exact Ya.app h k
end
def pZ {P:Li->Prop} (h0:P []) (h1:∀l c,P l->P (l++[c])):∀l,P l:=fun l=>by
 have key:∀m:Li,P m.reverse:=by
  intro m
  induction m with
  | nil=>exact h0
  | cons c m ih=>rw [List.reverse_cons];exact h1 _ _ ih
 have h:=key l.reverse
 simp_all
def NC:∀(l:Li),(∀c∈l,48<=c/\c<=57)->0<=Xa l:=by
 refine pZ ?_ ?_
 ·intro _;exact QR _
 intro l c ih;intro h;rw [VU];have h1:=ih fun d a=>h d (Wz _ a);have b:=h c (WZ _ (Eu c));lia
def ND:∀(l:Li),(∀c∈l,48<=c/\c<=57)->l≠[]->l.head?≠some 48->0<Xa l:=by
 refine pZ ?_ ?_
 ·simp_all
 intro l c ih;intro h _ b;rw [VU];have g:=h c (WZ _ (Eu c));cases a:l with
 | nil =>rw [a] at b;have:c≠48:=fun e=>b (by rw [e];rfl);show 0<10*0+(c - 48);lia
 | cons d m =>have h1:=ih (fun e f=>h e (Wz _ f)) (by rw [a];simp) sA;rw [a] at h1;lia
def NE:∀(l:Li),(∀c∈l,48<=c/\c<=57)->l≠[]->¬(l.head?=some 48/\1<l.length)->Zl (Xa l).toNat=l:=by
 refine pZ ?_ ?_
 ·simp_all
 intro l c ih;intro h _ n;have o:=h c (WZ _ (Eu c));have g:∀e∈l,48<=e/\e<=57:=fun e k=>h e (Wz _ k);rw [VU];cases a:l with
 | nil =>show Zl (10*0+(c - 48)).toNat=[c];rw [Z2 lI];congr 1;lia
 | cons d m =>
  have f:l≠[]:=by rw [a];simp
  have b:l.head?≠some 48:=fun e=>n ⟨sA,by rw [a];simp⟩;have p:=ND l g f b;have hi:=ih g f (fun e=>b e.1);rw [<-a];have i:(10*Xa l+(c - 48)).toNat / 10=(Xa l).toNat:=lI
  have j:((10*Xa l+(c - 48)).toNat % 10:Nat)=(c - 48).toNat:=lI
  rw [Yl lI,i,j,hi];congr 2;lia
def NF:∀(l:Li),(∀c∈l,48<=c/\c<=57)->Xa l<10 ^ l.length:=by
 refine pZ ?_ ?_
 ·intro _;show (0:Int)<1;lia
 intro l c ih h;rw [VU,Qt,EF,Int.pow_succ];have h1:=ih fun d a=>h d (Wz _ a);have b:=h c (WZ _ (Eu c));lia
theorem tF (s:Li):jb s=match zT s 19 with
  | some v=>if 0<=v/\v<=999999 then some v else none
  | none=>none:=by
 by_cases h:(1<=s.length/\s.length<=6)/\¬(s.head?=some 48/\1<s.length)/\(∀c∈s,48<=c/\c<=57)
 ·obtain⟨⟨h1,p⟩,i,a⟩:=id h;have d:s≠[]:=fun e=>by simp_all
  have h0:=NC s a;have k:=NF s a;have q:Xa s<=999999:=by have u:s.length=1\/s.length=2\/s.length=3\/s.length=4\/s.length=5\/s.length=6:=(by lia);grind
  have hs:=NE s a d i;have m:zo (Xa s)=s:=by unfold zo;rw [Qe (by lia),show (Xa s).natAbs=(Xa s).toNat by lia,hs]
  have hn:zT s 19=some (Xa s):=by have:=t8 (n:=Xa s) (most:=19) (by lia) (by lia) (by rw [show (Xa s).natAbs=(Xa s).toNat by lia,hs];lia);simp_all
  grind [jb]
 have e:jb s=none:=by grind [jb]
 rw [e];cases hn:zT s 19 with
 | none=>rfl
 | some v =>
  show none=if _ then _ else _
  by_cases g:0<=v/\v<=999999
  ·exfalso;apply h;have hs:=(mz hn).1;have a:zo v=Zl v.natAbs:=(by grind [zo]);rw [a] at hs;have f:=qN 6 v.natAbs (by lia) (by lia);have o:=m8 v.natAbs;refine⟨⟨?_,by rw [hs];exact f⟩,?_,by rw [hs];exact YB _⟩
   ·grind
   rintro ⟨r,hb⟩;by_cases b:v.natAbs=0
   ·grind [Z2]
   obtain⟨c,l,t,j⟩:=Pj b;simp_all
  rw [Qe g]
section
variable {s ns x tx l p:Li} {n:Int} {a:List Li} {t:Tg}
theorem sf:∀(a b:List Li),xB (a++b)=match xB a with
  | none=>none
  | some x=>(xB b).map (x++·)
 | [],b=>by show xB b=(xB b).map ([]++·);cases xB b <;> rfl
 | s :: a,b=>by
   show (match jb s with
   | none=>none
   | some n=>match xB (a++b) with
     | none=>none
     | some ns=>some (n :: ns))=match (match jb s with
   | none=>none
   | some n=>match xB a with
     | none=>none
     | some ns=>some (n :: ns)) with
   | none=>none
   | some x=>(xB b).map (x++·)
   rw [sf a b]
   cases jb s with
   | none=>rfl
   | some n =>
     cases xB a with
     | none=>rfl
     | some x=>cases xB b <;> rfl
def wH {l:List Li} (h:xB (s :: l)=some ns):∃n m,jb s=some n/\xB l=some m/\ns=n :: m:=by grind [xB]
def pf:∀{l:List Li} {ns:Li},xB l=some ns->ns.length=l.length
 | [],ns,h=>by rw [<-QD h];rfl
 | s :: l,ns,h=>by
   obtain⟨n,m,-,a,rfl⟩:=wH h
   rw [Q5,Q5,pf a]
def Hv (h:jb s=some n):0<=n/\n<=999999:=by grind [tF]
def sh:∀{l:List Li} {ns:Li},xB l=some ns->∀i,i<ns.length->0<=ak ns i/\ak ns i<=999999
 | [],ns,h,i,hi=>by rw [<-QD h] at hi;cases hi
 | s :: l,ns,h,i,hi=>by
   obtain⟨n,m,h1,a,rfl⟩:=wH h
   cases i with
   | zero=>exact Hv h1
   | succ i=>exact sh a i (by simpa using hi)
def wI (h:xB a=some x) (hn:jb s=some n):xB (a++[s])=some (x++[n]):=by grind [xB,sf]
def wJ {b:List Li} (h:xB a=some x) (hn:jb s=none):xB (a++s :: b)=none:=by grind [xB,sf]
theorem si (x:Int) (q:Li):∀a:List Li,a≠[]->yD x (a++[q])=yD x a++x :: q
 | [],h=>absurd rfl h
 | [p],_=>rfl
 | p :: r :: a,_=>by
   show p++x :: yD x (r :: a++[q])=(p++x :: yD x (r :: a))++x :: q
   rw [si x q (r :: a) sM,Wr];rfl
theorem wK (ws:List Li) (q:Li) (h:yD 32 ws=[]->ws=[]):yD 32 (ws++[q])=(if yD 32 ws=[] then yD 32 ws else yD 32 ws++[32])++q:=by grind [yD,si]
theorem sj {ws:List Li} {q:Li} (a:q≠[]):yD 32 (ws++[q])=[]->ws++[q]=[]:=by
 intro h;cases ws with
 | nil=>exact absurd h a
 | cons p b =>rw [si 32 q (p :: b) sM] at h;simp at h
theorem sm:∀(zs:Li) (ws:List Li),(yD 32 ws=[]->ws=[])->yD 32 (ws++zs.map zo)=yV (yD 32 ws) zs
 | [],ws,_=>by rw [E1,WJ];rfl
 | n :: zs,ws,h=>by
   have a:=sm zs (ws++[zo n]) (sj (Dg n))
   rw [Wr,qX] at a
   rw [Ef,a,wK ws _ h];rfl
theorem VG (zs:Li):yD 32 (zs.map zo)=yV [] zs:=sm zs [] fun _=>rfl
def Hw (n:Int):yD 32 [jl,zo n]=yV jl [n]:=rfl
theorem wL (s:Li):∀a b:Li,yV s (a++b)=yV (yV s a) b:=by intro a;induction a generalizing s <;> grind [yV]
def Ym (K:Kn) (k:Nat):Li:=[K.pc,K.st]++(K.ops.take k).flatMap fun o=>[o.sl,o.sg,o.d]
def Hx (K:Kn):yD 32 ((Ym K K.ops.length).map zo)=lD K:=by
 rw [VG];unfold Ym lD;rw [Wd,wL];generalize yV [] [K.pc,K.st]=s;generalize K.ops=l;induction l generalizing s with
 | nil=>rfl
 | cons o l ih =>rw [List.flatMap_cons,wL,qj];exact ih _
def nz (L:Lp) (t:Tg) (K:Kn) (n:Int):List Li:=(XG L n).map zo++([[58]]++(jo L t K n).map zo)
theorem wM (L:Lp) (t:Tg) (K:Kn) (n:Int):yD 32 (nz L t K n)=ku L t K n:=by
 have h:yD 32 ((XG L n).map zo)=[]->(XG L n).map zo=[]:=by
  generalize XG L n=zs;intro h;by_cases e:zs=[]
  ·rw [e];rfl
  rw [<-List.dropLast_concat_getLast e,QV] at h ⊢;grind [sj,Dg]
 grind [nz,ku,sm,sj,wK,VG]
def sn (h:l.take 2≠[61,32]) (hn:xB (zx 32 l).tail=none):Z7 t tx l ZV t tx:=by
 unfold Z7;rw [Qe h,Qe,hn]
 ·grind
 rintro rfl;cases hn
def wN (h:l.take 2=[61,32]):Z7 t tx l (yV ex [((tx++l.drop 2++[10]).length:Int)]) t (tx++l.drop 2++[10]):=by grind [Z7]
theorem VQ {x:Int} (h:zx x l=[p]):p=l:=by have:=ZH x l;rw [h] at this;exact this
def wP {c:Tg} {b a:Li} {qs:List Li} (h:l.take 2≠[61,32]) (hs:zx 32 l=p :: qs) (hn:xB qs=some ns)
  (hr:if p=yK/\ns.length=0 then a=ex/\c=t/\b=[]
   else if p=zW/\ns.length=7 then (if zS (hC ns)=true then a=ex/\c=hC ns/\b=tx else a=ZV/\c=t/\b=tx)
   else if (p=yz\/p=yx\/p=yy)/\ns.length=0 then UC t tx p 0 a/\c=t/\b=tx
   else if p=yM/\ns.length=1 then UC t tx yM (ak ns 0) a/\c=t/\b=tx
   else a=ZV/\c=t/\b=tx):Z7 t tx l a c b:=by
 have g:=pf hn
 have h0:ns.length=0->p=l:=fun e=>VQ (x:=32) (by rw [hs,Wi.1 (g.s.t e)])
 have f:∀m,zx 32 m=[m]->(l=m↔p=m/\ns.length=0):=fun m hm=>⟨fun e=>by
  rw [e,hm] at hs
  injection hs with h1 d
  subst d
  exact⟨h1.s,by rw [g];rfl⟩,fun e=>(h0 e.2).s.t e.1⟩
 unfold Z7
 rw [Qe h,hs]
 show (if l=yK then _ else match xB qs with
  | none=>_
  | some ns=>if p=zW/\ns.length=7 then _ else if l=yz\/l=yx\/l=yy then _ else if p=yM/\ns.length=1 then _ else _)
 rw [hn]
 show (if l=yK then _ else if p=zW/\ns.length=7 then _ else if l=yz\/l=yx\/l=yy then _ else if p=yM/\ns.length=1 then _ else _)
 have i:(l=yz\/l=yx\/l=yy)↔(p=yz\/p=yx\/p=yy)/\ns.length=0:=by
  rw [f yz rfl,f yx rfl,f yy rfl]
  constructor
  ·rintro (h | h | h)
   ·exact⟨.inl h.1,h.2⟩
   ·exact⟨.inr (.inl h.1),h.2⟩
   ·exact⟨.inr (.inr h.1),h.2⟩
  ·rintro ⟨h | h | h,d⟩
   ·exact .inl ⟨h,d⟩
   ·exact .inr (.inl ⟨h,d⟩)
   ·exact .inr (.inr ⟨h,d⟩)
 simp only [f yK rfl,i]
 by_cases e:(p=yz\/p=yx\/p=yy)/\ns.length=0
 ·rw [h0 e.2] at hr ⊢
  exact hr
 ·rw [Qe e] at hr ⊢
  exact hr
def wQ (h:l.take 2≠[61,32]) (hm:9<(zx 32 l).length):Z7 t tx l ZV t tx:=by
 cases hs:zx 32 l with
 | nil=>exact absurd hs (xQ 32 l)
 | cons p qs =>
  rw [hs,Q5] at hm;cases hn:xB qs with
  | none=>exact sn h (by rw [hs];exact hn)
  | some ns =>have a:=pf hn;refine wP h hs hn ?_;rw [Qe lI,Qe lI,Qe lI,Qe lI];exact⟨rfl,rfl,rfl⟩
theorem so:Vh (zx 10 [])=[]:=rfl
theorem Hy (h:zx 10 s=[p]) (hs:s≠[]):Vh (zx 10 s)=s :: Vh (zx 10 []):=by grind [zx,Vh,VQ]
end
theorem Pp (s:Li):∀(a b:Li),yV s (a++b)=yV (yV s a) b:=by
 intro a;induction a generalizing s with
 | nil=>intro b;rfl
 | cons n a ih=>intro b;exact ih _ b
theorem Pq (s:Li) (n:Int):yV s [n]=(if s=[] then s else s++[32])++zo n:=rfl
theorem Dj (s zs:Li) (k:Nat) (a:k<zs.length):yV s (zs.take (k+1))=(if yV s (zs.take k)=[] then yV s (zs.take k) else yV s (zs.take k)++[32])++zo (ak zs k):=by
 have e:zs.take (k+1)=zs.take k++[ak zs k]:=by rw [Wm,Qh a];grind [ak]
 rw [e,Pp,Pq]
theorem oy {n:Int} (h0:-9223372036854775808<=n) (h1:n<=9223372036854775807):(zo n).length<=20:=by
 grind [BM,zo]
def mA {s zs:Li} (a:∀i,i<zs.length->-9223372036854775808<=ak zs i/\ak zs i<=9223372036854775807):∀k,k<=zs.length->(yV s (zs.take k)).length<=s.length+21*k:=by
 intro k;induction k with
 | zero=>intro _;simp [yV]
 | succ k ih =>
  grind [oy,Dj]
section
variable {L:Lp} {K:Kn} {n:Int}
theorem FL (L:Lp) (i:Nat) (h:i<L.b.length):zB (ZM L) i=[0,0,0]:=by grind [zB,ZM]
theorem vf (L:Lp):(ZM L).length=L.b.length:=by unfold ZM;simp
theorem rB (L:Lp):(ZQ L).length=L.l.length:=by unfold ZQ;simp
theorem FM (L:Lp) (i:Nat) (h:i<L.l.length):zB (ZQ L) i=List.replicate (2 ^ (ak L.l i).toNat) 0:=by grind [zB,ZQ,ak]
theorem rC (hm:zQ L):xP L (ZM L) (ZQ L):=by grind [xP,vf,rB,yk,FL,FM]
theorem vg {l:Li} (h:∀x∈l,x=0) (j:Nat):bB (ak l j):=by
 have:ak l j=0:=by
  unfold ak;by_cases a:j<l.length
  ·rw [Qw,Qh a];exact h _ (QW a)
  simp_all
 grind [bB]
theorem vh {l:List Li} (i:Nat):zB l i∈l\/zB l i=[]:=by grind [zB]
def vi (L:Lp):Y6 (ZM L):=by grind [Y6,ZM,vg,vh]
def vj (L:Lp):Y6 (ZQ L):=by grind [Y6,ZQ,vg,vh]
theorem oO (L:Lp) (n:Int):(XG L n).length=L.o.length:=by grind [XG,Zg]
theorem oP (L:Lp) (t:Tg) (K:Kn) (n:Int):(jo L t K n).length<=L.o.length:=by grind [jo,tS]
theorem vk {s zs:Li} (a:∀i,i<zs.length->-9223372036854775808<=ak zs i/\ak zs i<=9223372036854775807):(yV s zs).length<=s.length+21*zs.length:=by have h:=mA (s:=s) a zs.length (Qc _);rwa [Wd] at h
def vm {t:Tg} (hm:zQ L) (hs:∀i,i<(XG L n).length->-9223372036854775808<=ak (XG L n) i/\ak (XG L n) i<=9223372036854775807) (a:∀i,i<(jo L t K n).length->-9223372036854775808<=ak (jo L t K n) i/\ak (jo L t K n) i<=9223372036854775807):(yV [] (XG L n)).length<=336/\(ku L t K n).length<=10000:=by grind [zQ,ku,vk,zy,oO,oP]
def FN (hn:n<=200) (h0:0<=n) (a:0<=K.pc) (b:K.pc<=96) (h:K.st*K.pc<=1200):(n+K.st)*K.pc<=30000:=by have h1:n*K.pc<=200*96:=Wy hn b a lI;have c:(n+K.st)*K.pc=n*K.pc+K.st*K.pc:=qz _ _ _;lia
end
section
variable {s:Li}
def Pf (s:Li) (x:Int) (w:wO) (hs:jR s) (hl:s.length<=2000000) :
  Cp 5 #[.string (strOfNums s),.int .u8 x] w fun e w'=>∃v,e=.returned v/\w'.ownsRow w.heap.size 9 1 v (zx x s).length (Z9 (zx x s))/\Bw w w':=by
 obtain⟨Q,hi,O,P,M⟩:=info_parts Tryz.ist9;have bj:(strOfNums s).size=s.length:=strOfNums_size s;go_enter func5,ntmps5;go_wp2;go_loopw [5,6,7] (fun lv fv L wr=>∃(i fr:Nat) (d:List Li) (z:Option Addr) (A:Nat),lv=.slice z d.length A/\fv=J fr/\L=J i/\fr<=s.length+1/\d.length<=i/\kw x s i fr d/\wr.ownsRow w.heap.size 9 1 (.slice z d.length A) d.length (Z9 d)/\Bw w wr) (fun _ _ L _=>s.length+1 - (intOf L).toNat)
 case atStart=>exact⟨0,0,[],none,0,rfl,rfl,rfl,by omega,Qc _,⟨by omega,fun _=>⟨Qc _,rfl,fun c W=>by simp at W⟩,fun h=>absurd h (by omega)⟩,⟨rfl,.inl ⟨rfl,rfl⟩⟩,QA _ _⟩
 obtain⟨i,fr,d,z,A,rfl,rfl,rfl,bK,bM,f,g,o⟩:=hrel;have HI:=Z f;have y:=Z g;have n:=Z o;obtain⟨X,lc9,V,bL,T⟩:=zD g;injection V with hsh1 hsh2 hsh3;clear hsh1 hsh2;subst hsh3;unfold maxLen at T;have N:=Z (zE g);have bN:w.heap.size<=wr.heap.size:=o.size;by_cases K:i<=s.length
 ·have U:(i:Int)<=(s.length:Int):=by omega
  obtain⟨bJ,-,-⟩:=f.mid K;have aZ:(fr:Int)<=(i:Int):=by omega
  by_cases I:i=s.length
  ·subst I;have q:=Z f.last;obtain⟨b,D⟩:=nm ((strOfNums s).extract fr s.length);have B:Hid (b=strOfNums ((s.drop fr).take (s.length - fr))):=D.s.t (mM s fr s.length);have H:Hid (∀(j:Nat) (u:vO),[Value.string b][j]?=some u->(wr.alloc (.cells #[.string b] 9)).cell? (((E wr.heap.size 0):Addr).add j)=some u):=px wr b;clear f g o;go_wp2_with (at_builtin;refine QQ _ rfl (.tmp 25) (.tmp 30) 22 rfl w.heap.size 9 Q (.string (ByteArray.mk #[])) 1 16 underlying22 hi O P M rfl (by decide) _ _ _ rfl (zp y (Qd _ _)) (E wr.heap.size 0) 1 1 [.string b] rfl rfl (by exact H) (by intro u t;simp at t;subst t;rfl) (by unfold maxLen;omega) (by omega) (by simp;omega) ?_;intro v1 w1 k r a;obtain⟨l,m,rfl,-,-⟩:=zD k;have G:=Z k;have F:=Z ((n.alloc n.size (.cells #[.string b] 9)).grown r (by simp;omega) N);clear k r a);go_roundw
   case rel=>exact⟨s.length+1,s.length+1,d++[(s.drop fr).take (s.length - fr)],l,m,by simp,by go_num,by go_num,by omega,by simp;omega,q,by rw [Qt,pw,<-B];exact G,F⟩
   first | (simp [intOf];done) | (simp [intOf];omega)
  have C:i<s.length:=by omega
  have bD:((i:Int) == (s.length:Int))=false:=Wf (by omega);have bg:(i:Int)<(s.length:Int):=by omega
  have R:=fun h=>rD hs C h;by_cases p:ak s i=x
  ·have q:=Z (f.cut C p);rw [p] at R;obtain⟨b,D⟩:=nm ((strOfNums s).extract fr i);have B:Hid (b=strOfNums ((s.drop fr).take (i - fr))):=D.s.t (mM s fr i);have H:Hid (∀(j:Nat) (u:vO),[Value.string b][j]?=some u->(wr.alloc (.cells #[.string b] 9)).cell? (((E wr.heap.size 0):Addr).add j)=some u):=px wr b;clear f g o p;go_wp2_with (at_builtin;refine QQ _ rfl (.tmp 25) (.tmp 30) 22 rfl w.heap.size 9 Q (.string (ByteArray.mk #[])) 1 16 underlying22 hi O P M rfl (by decide) _ _ _ rfl (zp y (Qd _ _)) (E wr.heap.size 0) 1 1 [.string b] rfl rfl (by exact H) (by intro u t;simp at t;subst t;rfl) (by unfold maxLen;omega) (by omega) (by simp;omega) ?_;intro v1 w1 k r a;obtain⟨l,m,rfl,-,-⟩:=zD k;have G:=Z k;have F:=Z ((n.alloc n.size (.cells #[.string b] 9)).grown r (by simp;omega) N);clear k r a);go_roundw
   case rel=>exact⟨i+1,i+1,d++[(s.drop fr).take (i - fr)],l,m,by simp,by go_num,by go_num,by omega,by simp;omega,q,by rw [Qt,pw,<-B];exact G,F⟩
   first | (simp [intOf];done) | (simp [intOf];omega)
  have q:=Z (f.go C p);have bE:(ak s i == x)=false:=Wf p;clear f g o p;go_wp2;go_roundw
  case rel=>exact⟨i+1,fr,d,z,A,rfl,rfl,by go_num,by omega,by omega,q,y,n⟩
  first | (simp [intOf];done) | (simp [intOf];omega)
 have U:¬(i:Int)<=(s.length:Int):=by omega
 have S:=Z (f.fin (by omega));clear f g o;go_wp2;go_ret;refine⟨_,rfl,?_,n⟩;rw [<-S];exact y
def Db (s:Li) (x:Int) (w:wO) (hs:jR s) (h:s.length<=2000000) :
  Cp 5 #[.string (strOfNums s),.int .u8 x] w fun e w'=>∃b c,e=.returned (.slice (pA b) (zx x s).length c)/\(zx x s).length<=c/\c<=maxLen/\w.heap.size<=b/\b<w'.heap.size/\(∀i,i<(zx x s).length->w'.cell? (E b i)=some (.string (strOfNums ((zx x s).getD i []))))/\Bw w w':=by
 refine (Pf s x w hs h).m fun e w' ⟨v,m,j,hb⟩=>?_;obtain⟨h,l⟩:=j;rcases l with ⟨_,h0⟩ | ⟨g,cap,a,p,n,d,hn,hm,q,o⟩
 ·exact absurd (Wi.1 h0) (xQ x s)
 refine⟨g,cap,by rw [m,p],hn,hm,n,(lo d),fun i hi=>?_,hb⟩;rw [Qa d];have f:(a.toList.take ((zx x s).length*1))[i]?=(Z9 (zx x s))[i]?:=by rw [o]
 rw [We,Qf oM] at f;have k:a.toList[i]?=a[i]?:=sM
 rw [<-k,f];unfold Z9;rw [Wc,Qh hi,List.getD,Qh hi];rfl
def qI (s:Li) (v:vO) (zs:Li) (w:wO) (h:zM w v zs) (U:zs.length<=1000000) (hs:s.length<=100000000) :
  Cp 8 #[.string (strOfNums s),v] w (Rt w (.string (strOfNums (yV s zs)))):=by
 obtain⟨a,cap,rfl,h1,O,q,C⟩:=h;unfold maxLen at O;have G:=Z q;have D:=Z C;have N:=Z (mA (s:=s) q);have I:=Z (Dj s zs);clear q C;go_enter func8,ntmps8;go_wp2;go_loopw [0,5] (fun sv t wr=>∃k:Nat,k<=zs.length/\sv=.string (strOfNums (yV s (zs.take k)))/\t=J k/\Bw w wr) (fun _ t _=>zs.length - (intOf t).toNat)
 case atStart=>exact⟨0,Ql _,rfl,rfl,QA _ _⟩
 obtain⟨k,P,rfl,rfl,j⟩:=hrel;have n:=Z j;by_cases g:k<zs.length
 ·have H:(k:Int)<(zs.length:Int):=oM
  obtain⟨b,u,rfl,hb,B⟩:=D oM;have L:=(ze j b (u+k) hb).t (B k g);obtain⟨r1,r2⟩:=G k g;have T:b<wr.heap.size:=by have:=j.size;omega
  have l:=Z (fun W=>Hp (ak zs k) W r1 r2);have m:=Z (oy r1 r2);have f:=Z (I k g);have o:=Z (N k P);generalize ak zs k=x at L l f m;obtain⟨c,A⟩:=nm (yV s (zs.take k));rw [A] at f o ⊢;obtain⟨d,y⟩:=nm (zo x);rw [y] at l f m;have z:=nZ c;clear j B A y;by_cases r:c=[]
  ·subst r;rw [Qi rfl] at z;rw [Qf rfl,W8] at f;have M:¬9223372036854775807<(strOfNums ([]:Li)).size+(strOfNums d).size:=(by rw [strOfNums_size,strOfNums_size];have:=m.o;show ¬9223372036854775807<0+d.length;omega);have K:strOfNums ([]:Li)++strOfNums d=strOfNums d:=jM [] d;go_wp2_with fail;refine (l _).m ?_;rintro e Q ⟨rfl,i⟩;have p:=Z (n.tm i);clear i;go_wp2_with fail;go_roundw
   case rel=>exact⟨k+1,oM,by rw [f],nQ,p⟩
   simp [intOf];omega
  rw [Qk r] at z;rw [Qe r] at f;have M:¬9223372036854775807<(strOfNums c).size+1:=by rw [strOfNums_size];have:=o.o;omega
  have K:strOfNums c++{ data:=#[32] }=strOfNums (c++[32]):=jM c [32];have R:¬9223372036854775807<(strOfNums (c++[32])).size+(strOfNums d).size:=by rw [strOfNums_size,strOfNums_size,Qt];have:=m.o;have:=o.o;show ¬9223372036854775807<c.length+1+d.length;omega
  have S:strOfNums (c++[32])++strOfNums d=strOfNums (c++[32]++d):=jM _ _;go_wp2_with fail;refine (l _).m ?_;rintro e Q ⟨rfl,i⟩;have p:=Z (n.tm i);clear i;go_wp2;go_roundw
  case rel=>exact⟨k+1,oM,by rw [f];first | (simp;done) | rfl,nQ,p⟩
  simp [intOf];omega
 have e:k=zs.length:=oM
 subst e;have H:¬(zs.length:Int)<(zs.length:Int):=oM
 have F:Hid (zs.take zs.length=zs):=Wd;rw [F];clear j;go_wp2;go_ret;exact ⟨rfl,n⟩
def ow (s:Li) (w:wO) (e:Ending) (w':wO):Prop:=∃n b,e=.returned (.tuple #[J n,.bool b])/\jb s=(if b=true then some n else none)/\0<=n/\n<=999999/\w'=w
def Dc:∀(l:Li) (n:Int),0<=n->(∀c∈l,48<=c/\c<=57)->0<=l.foldl (fun n c=>10*n+(c - 48)) n/\l.foldl (fun n c=>10*n+(c - 48)) n<(n+1)*10 ^ l.length
 | [],n,h,_=>by simp;omega
 | c :: l,n,h,a=>by
   have h1:=a c (QY ..)
   obtain⟨b,d⟩:=Dc l (10*n+(c - 48)) oM fun x f=>a x (Wg _ f)
   refine⟨b,Int.lt_of_lt_of_le d ?_⟩
   rw [Q5,Int.pow_succ,Er (10 ^ l.length) 10,<-Int.mul_assoc]
   exact Wx oM (Int.pow_nonneg tQ)
def Dd {l:Li} (h:∀c∈l,48<=c/\c<=57) (d:l.length<=6):0<=Xa l/\Xa l<=999999:=by
 obtain⟨h1,a⟩:=Dc l 0 (QR _) h;have b:(10:Int) ^ l.length<=1000000:=by
  obtain e | e | e | e | e | e | e:l.length=0\/l.length=1\/l.length=2\/l.length=3\/l.length=4\/l.length=5\/l.length=6:=oM
  all_goals (rw [e];decide)
 unfold Xa;omega
def t7 {k:Nat} (h:∀i,i<k->48<=ak s i/\ak s i<=57) (a:k<=s.length):∀c∈s.take k,48<=c/\c<=57:=by
 refine Di (p:=fun c=>48<=c/\c<=57) fun i hi=>?_;rw [Wh] at hi;have e:ak (s.take k) i=ak s i:=by unfold ak;rw [List.getD,List.getElem?_take_of_lt oM];rfl
 rw [e];exact h i oM
def qM (h:s.length<1\/6<s.length\/(ak s 0=48/\1<s.length)\/∃i,i<s.length/\¬(48<=ak s i/\ak s i<=57)):jb s=none:=by
 unfold jb;rw [Qe];rintro ⟨⟨h1,d⟩,b,c⟩;rcases h with h | h | h | ⟨i,hi,h⟩
 ·omega
 ·omega
 ·refine b ⟨?_,h.2⟩;cases s with
  | nil=>exact absurd h.2 sM
  | cons a l=>have:a=48:=h.1;rw [this];rfl
 refine h (c _ ?_);unfold ak;rw [List.getD,Qh hi];exact QW hi
def Pg (h1:1<=s.length) (d:s.length<=6) (h0:¬(ak s 0=48/\1<s.length)) (h:∀i,i<s.length->48<=ak s i/\ak s i<=57):jb s=some (Xa s):=by
 unfold jb;rw [Qf];refine⟨⟨h1,d⟩,fun ⟨b,c⟩=>h0 ⟨?_,c⟩,?_⟩
 ·cases s with
  | nil=>cases b
  | cons a l=>exact QD b
 have:=t7 (k:=s.length) h (Qc _);rwa [Wd] at this
def Ph (s:Li) (w:wO) (hs:jR s) (Q:s.length<=2000000):Cp 9 #[.string (strOfNums s)] w (ow s w):=by
 have O:(strOfNums s).size=s.length:=strOfNums_size s;have d:Hid (jb s=none->ow s w (.returned (.tuple #[J 0,.bool false])) w):=fun h=>⟨0,false,rfl,by rw [h];rfl,tQ,tQ,rfl⟩;by_cases h1:s.length<1
 ·have a:=Z (d (qM (.inl h1)));have j:(s.length:Int)<1:=oM
  go_enter func9,ntmps9;go_wp2;exact oB a
 by_cases L:6<s.length
 ·have a:=Z (d (qM (.inr (.inl L))));have j:¬(s.length:Int)<1:=oM
  have q:(6:Int)<(s.length:Int):=oM
  go_enter func9,ntmps9;go_wp2;exact oB a
 have j:¬(s.length:Int)<1:=oM
 have q:¬(6:Int)<(s.length:Int):=oM
 have r:decide ((s.length:Int)<1)=false:=Qk j;have N:decide ((6:Int)<(s.length:Int))=false:=Qk q;have l:=fun h=>rD hs (i:=0) oM h;by_cases h0:ak s 0=48/\1<s.length
 ·have a:=Z (d (qM (.inr (.inr (.inl h0)))));have P:(1:Int)<(s.length:Int):=oM
  rw [h0.1] at l;go_enter func9,ntmps9;go_wp2_with fail;exact oB a
 have H:Hid (∀i,i<s.length->¬(48<=ak s i/\ak s i<=57)->ow s w (.returned (.tuple #[J 0,.bool false])) w):=fun i hi h=>d (qM (.inr (.inr (.inr ⟨i,hi,h⟩))));have D:Hid ((∀i,i<s.length->48<=ak s i/\ak s i<=57)->ow s w (.returned (.tuple #[J (Xa (s.take s.length)),.bool true])) w):=fun h=>by rw [Wd];have v:=t7 (k:=s.length) h (Qc _);rw [Wd] at v;obtain⟨I,K⟩:=Dd v oM;exact⟨_,true,rfl,by rw [Pg oM oM h0 h];rfl,I,K,rfl⟩
 have F:Hid (∀k,k<=s.length->(∀i,i<k->48<=ak s i/\ak s i<=57)->0<=Xa (s.take k)/\Xa (s.take k)<=999999):=fun k o h=>Dd (t7 h o) (by rw [Wh];omega);have C:=Z (fun (i:Nat) (hi:i<s.length) h=>rD hs hi h);have G:=Z (fun (i:Nat) (hi:i<s.length)=>Q4 s hi);have B:=Z hs;obtain⟨S,t⟩:=nm (ak s 0);rw [t] at h0 l;clear t hs d;go_enter func9,ntmps9;go_wp2;all_goals first | (exfalso;omega) | skip
 all_goals
  clear l
  go_loopw [4,5] (fun nv p wr=>∃k:Nat,k<=s.length/\nv=J (Xa (s.take k))/\p=J k/\(∀i,i<k->48<=ak s i/\ak s i<=57)/\wr=w) (fun _ p _=>s.length - (intOf p).toNat)
  case atStart=>exact⟨0,Ql _,rfl,rfl,fun i hi=>absurd hi (Qv _),rfl⟩
  case round =>
   obtain⟨k,o,rfl,rfl,hall,rfl⟩:=hrel
   have ac:=Z hall
   obtain⟨x,v2⟩:=F k o hall
   clear hall
   by_cases b:k<s.length
   ·have A:(k:Int)<(s.length:Int):=oM
    have z:=C k b
    have g:=Z (G k b)
    obtain⟨b1,b2⟩:=B k
    have m:=Z (H k b)
    have u:Hid (48<=ak s k/\ak s k<=57->∀i,i<k+1->48<=ak s i/\ak s i<=57):=fun h i hi=>by
     by_cases e:i=k
     ·rw [e];exact h
     ·exact ac i oM
    generalize ak s k=c at z g b1 b2 m u
    generalize Xa (s.take k)=V at x v2 g ⊢
    by_cases f:c<48
    ·have a:=Z (m oM)
     go_wp2_with fail
     exact oB a
    ·by_cases n:57<c
     ·have a:=Z (m oM)
      have r:decide (c<48)=false:=Qk f
      go_wp2_with fail
      exact oB a
     ·have r:decide (c<48)=false:=Qk f
      have M:decide (57<c)=false:=Qk n
      have R:IntKind.u8.wrap (c - 48)=c - 48:=by rw [IntKind.wrap_u8];omega
      have y:=Z (u oM)
      go_wp2_with fail
      go_roundw
      case rel=>exact⟨k+1,oM,by rw [g],nQ,y,by first | trivial | rfl⟩
      case measure=>simp [intOf];omega
   ·have e:k=s.length:=oM
    subst e
    have A:¬(s.length:Int)<(s.length:Int):=oM
    have a:=Z (D ac)
    generalize Xa (s.take s.length)=V at x v2 a ⊢
    go_wp2_with fail
    exact oB a
end
end Go.Proofs.YtjlfcbccpcigeacGreatDoor
