import Derived.Test.YtjlfcbccpcigeacGreatDoorC3
import Derived.Test.YtjlfcbccpcigeacGreatDoorF
import Derived.Test.YtjlfcbccpcigeacGreatDoorG
import Derived.RangeFuncNested
import Derived.RangeFuncBound
import Derived.Shelf.Abstract
import Derived.OwnWalkIn
import Derived.TacticsInMore
import Derived.LoopNIn
import Derived.LoopIn
set_option maxHeartbeats 40000000
set_option linter.defProp false
namespace Go.Proofs.YtjlfcbccpcigeacGreatDoor
open Go.Proofs.Tryz Go.RowKit Go.Joins
set_option linter.unusedVariables false
set_option linter.unusedSimpArgs false
set_option maxRecDepth 8192
section
variable {A B w:World} {l n m k:Nat} {o:Obj} {P:Program} {Q:Exit->Act->World->Prop} {a:Act} {f:FuncId} {args:Array Value} {R R':Ending->World->Prop} {ops:Array Oper}
structure Ck (A B:World):Prop where
 size:A.heap.size<=B.heap.size
 cell:∀p v,A.cell? p=some v->B.cell? p=some v
def Ck.trans {C:World} (h:Ck A B) (k:Ck B C):Ck A C:=⟨QH h.size k.size,fun p v e=>k.cell p v (h.cell p v e)⟩
def Ck.gE (h:Bw A B):Ck A B:=⟨h.size,fun p v e=>by
 have a:p.block<A.heap.size:=by
  cases hb:A.heap[p.block]? with
  | none=>simp [World.cell?,hb] at e
  | some o=>exact (lo hb)
 exact (h.cell a).trans e⟩
def Ck.put (a:Obj) (b:A.heap[l]?=some o) (c:o.isCells=false):Ck A (A.putObj l a) :=
 ⟨by simp,fun p v e=>cell_kept e (grownBy_putObj' A l a) (fun r e=>by simp_all)⟩
def zda (a:Obj) (b:A.heap[l]?=some o) (hn:n<=l):Below n A (A.putObj l a) :=
 (QA n A).grown (grownBy_putObj' A l a) (by grind) (fun k e=>by cases e;omega)
def ykw (B:Nat) (Nx Fin:Prop) (Res:World->Prop) (la:Bool) (W:World):Exit->Act->World->Prop
 | .normal,_,W'=>Bw W W'/\(la=false->Nx)/\(la=true->Fin)
 | .ret,_,W'=>W.heap.size<=W'.heap.size/\(∀k,B<=k->k<W.heap.size->W'.heap[k]?=W.heap[k]?)/\Res W'
 | _,_,_=>False
def ztu {α S:Type} (P:Program) (gf:Nat) (lb:Array Value) (enc:α->Value) (Px:Bool->S->α->S->World->Prop) (s0:S) (w:World):Prop :=
 ∀ (n l:Nat) (J0:S->World->Prop) (J1 Jx:World->Prop) (W:World),(∀s A,J0 s A->Bw w A)->(∀s A B,J0 s A->Bw A B->J0 s B) ->
   (∀k la s x s' A,J0 s A->Px la s x s' A->YieldAt Fence.wide k P l #[enc x] A fun e B=>(e=.returned (.bool true)/\Ck A B/\(la=false->J0 s' B)/\(la=true->J1 B))\/(e=.returned (.bool false)/\Jx B))->J0 s0 W ->
   CallsIn Fence.wide n P gf (#[.func (.yield l) #[] #[]]++lb) W fun e B=>(∃v,e=.returned v)/\(J1 B\/Jx B)
def zss {α S:Type} {g:Operand} {ps:Array Tmp} {assign body:Code} {gf:Nat} {lb:Array Value}
  (hg:a.eval g=.func (.func gf) #[] lb) (eg:∀args w,(callFunc gf args).run P w=.ok (.enter gf args) w)
  {enc:α->Value} {Px:Bool->S->α->S->World->Prop} {s0:S} (hit:ztu P gf lb enc Px s0 w) (aM:ps.size=1)
  (aE:∀la s x s' A B,Px la s x s' A->Ck A B->Px la s x s' B) (Inv:S->Prop) (al:Inv s0)
  (Fin:Prop) (Res:World->Prop) (ae:∀A l o o',Res A->w.heap.size<=l->A.heap[l]?=some o->o.isCells=false->Res (A.putObj l o'))
  (ax:α->Nat->Act) (bx:α->Obj)
  (aa:∀(l k:Nat) (x:α) (W:World) (K:Act->World->Prop),K (ax x W.heap.size) (W.alloc (bx x)) ->
   assign.wpIn (Fence.wide.inRound l) k P (Exit.then K (fun _ _ _=>False)) { tmps:=(ps.zip #[enc x]).foldl (fun t (p,v)=>t.setIfInBounds p v) a.tmps,defers:=[] } W)
  (gQ:∀(l k B:Nat) (la:Bool) (s:S) (x:α) (s':S) (W:World),Inv s->Bw w W->Px la s x s' W->w.heap.size<=B->W.heap[B]?=some (bx x)->body.wpIn (Fence.wide.inRound l) k P (ykw w.heap.size (Inv s') Fin Res la W) (ax x B) W)
  (af:∀(D:Nat) (W:World),w.heap.size<=D->Fin->Bw w W->W.heap[D]?=some (.deferred (some []))->Q .normal { a with defers:={ target:=.collected D,args:=#[] } :: a.defers } W)
  (ag:∀(D:Nat) (W:World),w.heap.size<=D->Res W->W.heap[D]?=some (.deferred (some []))->Code.ret.wpIn Fence.wide n P Q { a with defers:={ target:=.collected D,args:=#[] } :: a.defers } W) :
  (Code.rangeFunc g ps assign body).wpIn Fence.wide n P Q a w:=by
 refine wpIn_rangeFunc ?_;intro fn hfn;let rc:LoopState->Option Code->Loop:=fun st pe=>{ state:=st,pending:=pe,fn,tmps:=a.tmps,params:=ps,assign,body,defers:=w.heap.size };obtain⟨W1,ah⟩:=nm ((w.alloc (.deferred (some []))).alloc (.loop (rc .ready none)));have aF:Bw w W1:=by rw [<-ah];exact ((QA _ w).alloc (Qc _) _).alloc (by simp) _
 have aK:W1.heap[w.heap.size+1]?=some (.loop (rc .ready none)):=by rw [<-ah];have h:=World.alloc_heap_new (w.alloc (.deferred (some []))) (.loop (rc .ready none));rwa [World.size_alloc] at h
 have aH:W1.heap[w.heap.size]?=some (.deferred (some [])):=by rw [<-ah];exact (Qr _ _ _ (by simp)).trans (World.alloc_heap_new w _)
 refine⟨w.heap.size+1,[{ target:=.collected w.heap.size,args:=#[] }],W1,{ target:=.fn (.func gf) lb,args:=#[.func (.yield (w.heap.size+1)) #[] #[]] },W1,gf,#[.func (.yield (w.heap.size+1)) #[] #[]]++lb,W1,by rw [<-ah];exact run_enterLoop_outer _ _ _ _ _,?_,fun _ _=>trivial,?_,fun h=>by simp [Fence.wide] at h,?_⟩
 ·simp only [resolve,hg];simp [go_sem]
 ·simp [invoke,go_sem,eg]
 have low:∀{A B:World} {k:Nat} {o:Obj},A.heap[k]?=some o->Bw A B->B.heap[k]?=some o:=fun h hb=>(hb.block _ (lo h)).trans h
 refine (hit (n - 1) (w.heap.size+1)
  (fun s A=>Inv s/\Bw w A/\A.heap[w.heap.size+1]?=some (.loop (rc .ready none))/\A.heap[w.heap.size]?=some (.deferred (some [])))
  (fun A=>Fin/\Bw w A/\A.heap[w.heap.size+1]?=some (.loop (rc .ready none))/\A.heap[w.heap.size]?=some (.deferred (some [])))
  (fun A=>Res A/\A.heap[w.heap.size+1]?=some (.loop (rc .done (some .ret)))/\A.heap[w.heap.size]?=some (.deferred (some [])))
  W1 (fun s A h=>h.2.1) (fun s A B h hb=>⟨h.1,h.2.1.tm hb,low h.2.2.1 hb,low h.2.2.2 hb⟩) ?_ ⟨al,aF,aK,aH⟩).mono ?_
 ·rintro k la s x s' A ⟨hi,hA,hl,hd⟩ hx;have aQ:w.heap.size+1<A.heap.size:=(lo hl);refine⟨fn,_,assign,body,run_yield (P:=P) (args:=#[enc x]) hl (by simpa using aM.symm),roundIn_of_wpIn hfn (aa _ k x A _ ?_)⟩;have aj:Bw A (A.alloc (bx x)):=(QA _ A).alloc (Qc _) _;have az:=low hl aj;have aI:=low hd aj;refine⟨_,run_beginRound az rfl,?_⟩;obtain⟨W2,ac⟩:=nm ((A.alloc (bx x)).putObj (w.heap.size+1) (.loop { rc .ready none with state:=.busy }));have ao:Bw w W2:=by rw [<-ac];exact (hA.tm aj).trans (belowK_b (w:=w) (Qc _) _ _ _ _ (by omega) az rfl rfl)
  have aA:Ck A W2:=by rw [<-ac];exact (Ck.gE aj).trans (Ck.put _ az rfl)
  have ay:W2.heap[w.heap.size+1]?=some (.loop { rc .ready none with state:=.busy }):=by rw [<-ac];exact World.putObj_heap_same (by simp;omega)
  have aB:W2.heap[w.heap.size]?=some (.deferred (some [])):=by rw [<-ac];exact (World.putObj_heap_other (by omega)).trans aI
  have aP:W2.heap[A.heap.size]?=some (bx x):=by rw [<-ac];exact (World.putObj_heap_other (by omega)).trans (World.alloc_heap_new _ _)
  have aO:=(lo ay);have e2:(A.alloc (bx x)).putObj (w.heap.size+1) (.loop { rc .ready none with state:=.busy })=W2:=ac;show body.wpIn _ _ _ _ _ ((A.alloc (bx x)).putObj (w.heap.size+1) (.loop { rc .ready none with state:=.busy }));rw [e2];refine wpIn_mono (gQ _ k A.heap.size la s x s' W2 hi ao (aE _ _ _ _ _ _ hx aA) hA.size aP) ?_;rintro e a3 W3 hp;cases e with
  | normal =>
   obtain⟨ai,aL,hf⟩:=hp;have ab:=low ay ai;have au:=low aB ai;have aD:=(lo ab);have aG:Bw w (W3.putObj (w.heap.size+1) (.loop (rc .ready none))):=(ao.tm ai).trans (belowK_b (w:=w) (Qc _) _ _ _ _ (by omega) ab rfl rfl)
   have hj:Bw w (W3.putObj (w.heap.size+1) (.loop (rc .ready none)))/\(W3.putObj (w.heap.size+1) (.loop (rc .ready none))).heap[w.heap.size+1]?=some (.loop (rc .ready none))/\(W3.putObj (w.heap.size+1) (.loop (rc .ready none))).heap[w.heap.size]?=some (.deferred (some [])) :=
    ⟨aG,World.putObj_heap_same aD,(World.putObj_heap_other (by omega)).trans au⟩
   exact⟨_,_,run_endRound (P:=P) none ab,.inl ⟨rfl,aA.trans ((Ck.gE ai).trans (Ck.put _ ab rfl)),fun h=>⟨aL h,hj⟩,fun h=>⟨hf h,hj⟩⟩⟩
  | ret =>obtain⟨aD,aC,aN⟩:=hp;have ab:=(aC _ (by omega) aO).trans ay;have au:=(aC _ (Qc _) (by omega)).trans aB;exact⟨_,_,run_endRound (P:=P) (some .ret) ab,.inr ⟨rfl,ae _ _ _ _ aN (by omega) ab rfl,World.putObj_heap_same (by omega),(World.putObj_heap_other (by omega)).trans au⟩⟩
  | exit id=>exact hp.elim
  | goto t=>exact hp.elim
  | panic ch=>exact hp.elim
  | outgrown=>exact hp.elim
 rintro e W2 ⟨⟨v,rfl⟩,(⟨hf,hb,hl,hd⟩ | ⟨hr,hl,hd⟩)⟩
 ·exact⟨none,_,run_endLoop (P:=P) hl (by simp [rc]),af _ _ (Qc _) hf (hb.trans (belowK_b (w:=w) (Qc _) _ _ _ _ (by omega) hl rfl rfl)) ((World.putObj_heap_other (by omega)).trans hd)⟩
 exact⟨some .ret,_,run_endLoop (P:=P) hl (by simp [rc]),ag _ _ (Qc _) (ae _ _ _ _ hr (by omega) hl rfl) ((World.putObj_heap_other (by omega)).trans hd)⟩
def VW (h:Calls P f args w R) (hR:∀e w',R e w'->R' e w'):Fence.wide.fn f/\(Fence.wide.depth.isSome=true->1<=n)/\CallsIn Fence.wide m P f args w R' :=
 ⟨trivial,fun h=>by simp [Fence.wide] at h,(callsIn_wide.2 h).mono hR⟩
def zsx (h:Calls P f args w R) (hR:∀e w',R e w'->R' e w'):(Fence.wide.inRound l).fn f/\((Fence.wide.inRound l).depth.isSome=true->1<=n)/\CallsIn (Fence.wide.inRound l) m P f args w R' :=
 ⟨trivial,fun h=>by simp [Fence.wide,Fence.inRound] at h,CallsIn.inRound l ((callsIn_wide.2 h).mono hR)⟩
def zbw (Q:Exit->Act->World->Prop):Exit->Act->World->Prop
 | .normal,a,w=>Q .normal a w
 | _,_,_=>False
def zbw.imp:∀(e:Exit) (a:Act) (w:World),zbw Q e a w->Q e a w:=by grind [zbw]
def zbw.normal (h:Q .normal a w):zbw Q .normal a w:=h
def zuk (ops:Array Oper):Bool:=ops.all fun o=>match o.op with | .defer _=>false | _=>true
def zsf {o:Oper} {K:Act->World->Prop} (g:(match o.op with | .defer _=>false | _=>true)=true) (h:o.wp P a w K Q):o.wpIn (Fence.wide.inRound l) k P a w K Q:=by
 refine⟨fun _ _=>trivial,?_⟩;have e:o.semAt (Fence.wide.inRound l).round a.eval=execOp a.eval o:=by
  unfold Oper.semAt;grind
 have hn:(Fence.wide.inRound l).depth.isSome=true->1<=k:=fun h=>by simp [Fence.wide,Fence.inRound] at h
 rw [e];unfold Oper.wp at h;revert h;cases hr:(execOp a.eval o).run P w with
 | ok nx w' =>
  cases nx <;> intro h
  case enter f args=>exact⟨hn,CallsIn.inRound l (callsIn_wide.2 h)⟩
  case row r args=>exact⟨hn,fun c b _=>let ⟨v,w',r,s⟩:=h c b;⟨v,w',r,stepsIn_wide.2 s⟩⟩
  all_goals first | exact h | exact (h:False).elim
 | halt d w'=>intro h;cases d <;> first | exact h | exact (h:False).elim
def zab {m:Region.Mode} (d:zuk ops=true):∀(b:Nat) (f:Array Bool) (a:Act) (w:World),wpAny P m ops (zbw Q) b f a w->wpAnyIn (Fence.wide.inRound l) k P m ops (zbw Q) b f a w
 | 0,_,_,_,h=>h
 | b+1,f,a,w,h=>⟨h.1,fun i hi=>by
   have c:=h.2 i hi
   unfold wpOp at c
   unfold wpOpIn
   cases g:ops[i]? with
   | none=>rw [g] at c;exact zab d b _ a w c
   | some o =>
     rw [g] at c
     have n:(match o.op with | .defer _=>false | _=>true)=true:=Array.all_eq_true'.1 d o (Array.mem_of_getElem? g)
     by_cases j:Region.wanted o (yielded ops a.tmps)=true
     ·simp only [j,if_true] at c ⊢
      rcases c with c | ⟨-,-,-,⟨⟩⟩
      exact zsf n (Oper.wp_mono (fun a' w' p=>zab d b _ a' w' p) c)
     ·simp only [j,if_false,Ei] at c ⊢
      exact⟨fun _ _=>trivial,zab d b _ _ w c⟩⟩
def zmh {id:Nat} (z:Nat) (S:World->Prop) (hm:P.follows .mixedOrders=true) (b:zuk ops=true) (hS:S w.drew) (h:S w.drew->YX P .any ops (zbw Q) S z ops.size (Array.replicate ops.size false) a w.drew):(Code.region id ops true).wpIn (Fence.wide.inRound l) k P Q a w :=
 wpIn_mono (wpIn_region_any hm (zab b _ _ _ _ (U1 _ _ _ _ (h hS)))) zbw.imp
end
section
variable {L:Lp} {t:Tg} {P s:Int} {T:List Int} {r r':Option Kn} {A B x y w V:World} {v k0 k1 kv ov c:Value} {g n:Nat} {e ta tb tc:TypeId} {K:Kn} {o:Obj}
def zbv (L:Lp) (t:Tg) (P:Int) (T:List Int) (r:Option Kn):Prop:=∃d,Xd L t P T d/\r=d.map (Zy L t P T)
def zbv.unique (h:zbv L t P T r) (c:zbv L t P T r'):r=r':=by obtain⟨d,h1,f⟩:=h;obtain⟨d',a,b⟩:=c;rw [f,b,h1.unique a]
inductive yN (L:Lp) (t:Tg):Int->Option Kn->Prop
 | here (s P:Int) (T:List Int) (K:Kn) (h:s<xU L t) (hm:Yz L t s P T) (hp:P<xU L t) (ab:zZ L t P T=true) (hk:zbv L t P T (some K)):yN L t s (some K)
 | next (s P:Int) (T:List Int) (r:Option Kn) (h:s<xU L t) (hm:Yz L t s P T) (hp:P<xU L t) (hk:zbv L t P T none) (hr:yN L t (P+1) r):yN L t s r
 | last (s:Int) (r:Option Kn) (h:xU L t<=s\/∃P T,Yz L t s P T/\xU L t<=P) (ab:zZ L t (xU L t) (Xl L t)=true) (hk:zbv L t (xU L t) (Xl L t) r):yN L t s r
def zcf (h:s<xU L t) (hm:Yz L t s P T) (d:P<xU L t):¬(xU L t<=s\/∃P T,Yz L t s P T/\xU L t<=P):=by
 rintro (h1 | ⟨a,b,h1,c⟩)
 ·omega
 have:=(hm.unique h1).1;omega
def yN.unique (h:yN L t s r):yN L t s r'->r=r':=by
 induction h generalizing r' with
 | here s P T K h hm l n i =>
  intro c;cases c with
  | here _ j k m c b f d a =>obtain⟨rfl,rfl⟩:=hm.unique b;exact i.unique a
  | next _ j k r c b f a g =>obtain⟨rfl,rfl⟩:=hm.unique b;have:=i.unique a;cases this
  | last _ _ c d a=>exact absurd c (zcf h hm l)
 | next s P T r h hm l i hr ih =>
  intro c;cases c with
  | here _ j k m c b f d a =>obtain⟨rfl,rfl⟩:=hm.unique b;have:=i.unique a;cases this
  | next _ j k r c b f a g =>obtain⟨rfl,rfl⟩:=hm.unique b;exact ih g
  | last _ _ c d a=>exact absurd c (zcf h hm l)
 | last s r h n i =>
  intro c;cases c with
  | here _ j k m c b f d a=>exact absurd h (zcf c b f)
  | next _ j k r c b f a g=>exact absurd h (zcf c b f)
  | last _ _ c d a=>exact i.unique a
theorem yN.made (h:yN L t s r):∀K,r=some K->∃P T D,zZ L t P T=true/\P<=xU L t/\Xd L t P T (some D)/\K=Zy L t P T D:=by
 have key:∀{P:Int} {T:List Int} {K:Kn},zbv L t P T (some K)->∃D,Xd L t P T (some D)/\K=Zy L t P T D:=fun h=>by
  obtain⟨d,h1,a⟩:=h;cases d with
  | none=>cases a
  | some D=>exact⟨D,h1,QD a⟩
 induction h with
 | here s P T K h hm f c b =>intro g e;obtain⟨D,h1,a⟩:=key b;exact⟨P,T,D,c,by omega,h1,(QD e).symm.trans a⟩
 | next s P T r h hm f b hr ih=>exact ih
 | last s r h c b =>intro K e;rw [e] at b;obtain⟨D,h1,a⟩:=key b;exact⟨_,_,D,c,QR _,h1,a⟩
def yN.none (h:yN L t s r):r=Option.none->zZ L t (xU L t) (Xl L t)=true/\Xd L t (xU L t) (Xl L t) Option.none:=by
 induction h with
 | here s P T K h hm f b a=>intro e;cases e
 | next s P T r h hm f a hr ih=>exact ih
 | last s r h b a =>
  intro e;rw [e] at a;obtain⟨d,h1,c⟩:=a;cases d with
  | none=>exact⟨b,h1⟩
  | some D=>cases c
section
attribute [local go_sem] Oper.semAt_some
def zM.ck {zs:List Int} (h:zM A v zs) (k:Ck A B):zM B v zs:=by obtain⟨a,cap,e,h1,f,g,j⟩:=h;refine⟨a,cap,e,h1,f,g,fun n=>?_⟩;obtain⟨b,c,d,l,m⟩:=j n;exact⟨b,c,d,Qu l k.size,fun i hi=>k.cell _ _ (m i hi)⟩
def Xs.ck (h:Xs A v P T) (k:Ck A B):Xs B v P T:=by obtain⟨tv,e,h1⟩:=h;exact⟨tv,e,h1.ck k⟩
def zxz (x:Int × Option Addr × Nat × Nat):Value:=.agg #[J x.1,.slice x.2.1 x.2.2.1 x.2.2.2]
def zmy (L:Lp) (t:Tg) (la:Bool) (s:Int) (x:Int × Option Addr × Nat × Nat) (s':Int) (A:World):Prop :=
 ∃T,Xs A (zxz x) x.1 T/\zZ L t x.1 T=true/\(la=false->s<xU L t/\Yz L t s x.1 T/\x.1<xU L t/\s'=x.1+1)/\(la=true->x.1=xU L t/\T=Xl L t/\(xU L t<=s\/∃P T,Yz L t s P T/\xU L t<=P))
def zmy.ck {a:Bool} {b:Int} {x:Int × Option Addr × Nat × Nat} (h:zmy L t a s x b A) (k:Ck A B):zmy L t a s x b B:=by obtain⟨T,h1,c⟩:=h;exact⟨T,h1.ck k,c⟩
def zlj:Prop:=∀(v:Value) (t:Tg) (L:Lp) (gU:Int) (w:World),zI w v L->zQ L=true->zS t=true->1<=gU->gU<=200 ->
 Calls prog 94 #[v,.agg t.cells,J gU] w fun e w'=>Bw w w'/\∃P ta tc T,e=.returned (.tuple #[.agg #[J P,.slice ta T.length tc],J 0])/\zM w' (.slice ta T.length tc) T/\zZ L t P T=true/\gU<=P/\P<=max gU (xU L t)/\Yz L t gU P T
def yf3:Prop:=∀(v:Value) (t:Tg) (L:Lp) (gU:Int) (w:World),zI w v L->zQ L=true->zS t=true->1<=gU->gU<=200->Calls prog 93 #[v,.agg t.cells,J gU] w fun e w'=>yig L t gU w e w'
def zy6 (hM:zlj) (hO:yf3) (t:Tg) (L:Lp) (a0 u v:Option Addr) (z C D:Nat) (w:World) (b1 b2:Nat) (hm:zQ L=true) (M:zS t=true)
  (hL:zI w ((lv L a0 u v z C D)) L)
  (S:w.heap[b1]?=some (lC L a0 u v z C D)) (R:w.heap[b2]?=some (tO t)) :
  ztu prog 92 #[.pointer (pA b1),.pointer (pA b2)] zxz (zmy L t) 1 w:=by
 intro n l m J1 Jx W f I hY h0;have O:=zd9 hm M;have dH:=Z (fun W (h:zI W ((lv L a0 u v z C D)) L) a h1 H=>hM _ t L a W h hm M h1 H);have dI:=Z (fun W (h:zI W ((lv L a0 u v z C D)) L)=>hO _ t L 1 W h hm M (by omega) (by omega));have cG:Hid (∀s A,m s A->zI A ((lv L a0 u v z C D)) L):=fun s A h=>hL.gE (f s A h);have af:Hid (∀s A,m s A->(A.cell? (E b1 0)=some (.slice a0 L.l.length z)/\A.cell? (E b1 1)=some (.slice u L.b.length C)/\A.cell? (E b1 2)=some (.slice v L.o.length D))/\A.cell? (E b2 0)=Y t.u0/\A.cell? (E b2 1)=Y t.u1/\A.cell? (E b2 2)=Y t.u2/\A.cell? (E b2 3)=Y t.w0/\A.cell? (E b2 4)=Y t.w1/\A.cell? (E b2 5)=Y t.w2/\A.cell? (E b2 6)=Y t.r):=fun s A h=>by have h1:=((f s A h).block b1 (lo S)).trans S;have H:=((f s A h).block b2 (lo R)).trans R;refine⟨⟨?_,?_,?_⟩,?_,?_,?_,?_,?_,?_,?_⟩;all_goals first | (rw [Qa h1];rfl) | (rw [Qa H];rfl)
 obtain⟨c,Q⟩:∃x,xU L t=x:=⟨_,rfl⟩;have y:=Z Q;have bF:=Z I;have HY:=Z hY;have cB:=Z h0;have dN:=Z (ze3 (P:=c) hm M (by rw [Q];omega) (by omega));rw [Q] at O;obtain⟨⟨l0,l1,l2⟩,t0,t1,t2,t3,t4,t5,t6⟩:=af _ _ h0;have ef:=(lo S);have eh:=(lo R);have eu:=(f _ _ h0).size;have ep:=Z f;clear hm M hL S R f I hY h0 Q;refine callsIn_of_wp func92 rfl trivial ?_ rfl;simp only [ntmps92,EG,Q5,List.length_nil,Nat.reduceAdd,Nat.reduceSub,Array.replicate_succ,Array.replicate_zero,List.push_toArray,List.append_toArray,W8,EM];gi_wp2_with fail;refine VW (dI _ (cG _ _ cB)) ?_;rintro e N ⟨hb,g,tc,rfl,hg,hI⟩;have ac:=Z hb;have dA:=Z hI;have cU:max 1 c=c:=by omega
 rw [y,cU];clear l0 l1 l2 t0 t1 t2 t3 t4 t5 t6 hb hI cU;obtain⟨i,U⟩:=nm (N.alloc (.cells #[J c,.slice (pA g) L.b.length tc] 110));have cO:=Z U;have dF:Hid (m 1 i):=by show m 1 i;rw [<-U];exact bF _ _ _ (bF _ _ _ cB ac) (Qd _ _)
 have bZ:Hid (∀A,Ck i A->A.cell? (E N.heap.size 0)=Y c/\A.cell? (E N.heap.size 1)=some (.slice (pA g) L.b.length tc)):=fun A h=>by
  have hb:i.heap[N.heap.size]?=some (.cells #[J c,.slice (pA g) L.b.length tc] 110 (0,0)):=by rw [<-cO];exact zm _ _ _
  refine⟨h.cell _ _ ?_,h.cell _ _ ?_⟩ <;> (rw [Qa hb];rfl)
 have aB:Hid (∀k s A,m s A->Ck i A->(c<=s\/∃P T,Yz L t s P T/\c<=P)->YieldAt Fence.wide k prog l #[.agg #[J c,.slice (pA g) L.b.length tc]] A fun e B=>(e=.returned (.bool true)/\J1 B)\/(e=.returned (.bool false)/\Jx B)):=fun k s A K hc hs=>by refine (HY k true s (c,some (E g 0),L.b.length,tc) 0 A K ⟨_,Xs.ck (A:=i) ⟨_,rfl,?_⟩ hc,dN,fun h=>absurd h (by simp),fun _=>⟨y.symm,rfl,by rw [y];exact hs⟩⟩).mono fun e B h=>h.imp (fun h=>⟨h.1,h.2.2.2 rfl⟩) id;rw [<-cO];exact dA.gE (Qd _ _)
 have eC:N.heap.size<i.heap.size:=by rw [<-U];simp
 have bD:Hid (Ck i i):=Ck.gE (QA _ _);have dJ:=Z (fun (wr:World) (a s:Int) (h:m s wr) h1 H=>dH wr (cG s wr h) a h1 H);have bQ:=O.1;have dS:=O.2;clear O;gi_wp2_with fail;clear U;gi_loopw [5] (fun lv wr=>∃a:Int,lv=J a/\1<=a/\a<=c/\m a wr/\Ck i wr) (fun lv _=>(c - intOf lv).toNat)
 case atStart=>exact⟨1,rfl,QR _,bQ,dF,bD⟩
 obtain⟨a,rfl,dX,eA,K,bz⟩:=hrel;have HJ:=Z K;have ce:=Z bz;obtain⟨m0,m1⟩:=bZ _ bz;obtain⟨⟨l0,l1,l2⟩,t0,t1,t2,t3,t4,t5,t6⟩:=af _ _ K;have hz:=bz.size;clear K bz;by_cases dY:a<c
 ·gi_wp2_with fail;refine VW (dJ wr a a HJ dX (by omega)) ?_;rintro e F ⟨hb,P,ta,j,T,rfl,bN,ab,di,bU,dh⟩;have cI:=Z dh;clear dh;rw [y] at bU;have bY:=Z hb;have em:=Z bN;have aC:=Z ab;have eB:P<=c:=by omega
  obtain⟨p,V⟩:=nm (F.alloc (.cells #[J P,.slice ta T.length j] 110));have er:=Z V;have bR:Bw wr p:=by rw [<-V];exact hb.tm (Qd _ _)
  have cC:Hid (m a p):=bF _ _ _ HJ bR;have bE:Hid (Ck i p):=ce.trans (Ck.gE bR);have bH:Hid (p.heap[F.heap.size]?=some (.cells #[J P,.slice ta T.length j] 110 (0,0))):=by show _=_;rw [<-V];exact zm _ _ _
  have dK:Hid (Xs p (.agg #[J P,.slice ta T.length j]) P T):=by refine⟨_,rfl,?_⟩;rw [<-V];exact bN.gE (Qd _ _)
  have ee:=hb.size;clear m0 m1 l0 l1 l2 t0 t1 t2 t3 t4 t5 t6 hb bN ab bR bU;obtain⟨m0,m1⟩:=bZ _ bE;have n0:p.cell? (E F.heap.size 0)=Y P:=cb bH
  have n1:p.cell? (E F.heap.size 1)=some (.slice ta T.length j):=cb bH
  by_cases dV:c<=P
  ·obtain⟨fn,tmps,d,body,hy,hR⟩:=aB (n - 1) a p cC bE (.inr ⟨P,T,cI,dV⟩);have G:=Z hR;clear hR;gi_wp2_with fail;refine⟨fun h=>absurd h (by simp [Fence.wide]),G.mono ?_⟩;rintro e q (⟨rfl,h⟩ | ⟨rfl,h⟩)
   ·gi_wp2_with fail;go_end0;exact⟨⟨_,rfl⟩,.inl h⟩
   gi_wp2_with fail;go_end0;exact⟨⟨_,rfl⟩,.inr h⟩
  obtain⟨fn,tmps,d,body,hy,hR⟩:=HY (n - 1) false a (P,ta,T.length,j) (P+1) p cC ⟨_,dK,aC,fun _=>⟨by rw [y];exact dY,cI,by rw [y];show P<c;omega,rfl⟩,fun h=>absurd h (by simp)⟩;have G:=Z hR;clear hR;dsimp only [zxz] at hy;gi_wp2_with fail;refine⟨fun h=>absurd h (by simp [Fence.wide]),G.mono ?_⟩;rintro e q (⟨rfl,X,de,-⟩ | ⟨rfl,h⟩)
  ·have dr:=Z X;have dE:Hid (m (P+1) q):=(by show m (P+1) q;simpa using de);have k0:q.cell? (E F.heap.size 0)=Y P:=X.cell _ _ n0;have eF:F.heap.size<q.heap.size:=Qu (lo bH) X.size;clear X de m0 m1 n0 n1 hy;gi_wp2_with fail;go_roundw
   case rel=>exact⟨P+1,by go_num,by omega,by omega,dE,bE.trans dr⟩
   simp [intOf];omega
  gi_wp2_with fail;refine bodyPost_ret (results_none rfl _ _ _) rfl ?_;exact⟨⟨_,rfl⟩,.inr h⟩
 obtain⟨fn,tmps,d,body,hy,hR⟩:=aB (n - 1) a wr HJ ce (.inl (by omega));have G:=Z hR;clear hR;gi_wp2_with fail;refine⟨fun h=>absurd h (by simp [Fence.wide]),G.mono ?_⟩;rintro e q (⟨rfl,h⟩ | ⟨rfl,h⟩)
 ·gi_wp2_with fail;go_end0;exact⟨⟨_,rfl⟩,.inl h⟩
 gi_wp2_with fail;go_end0;exact⟨⟨_,rfl⟩,.inr h⟩
def zy7 (v0 f v2 a p1 p2 b c d r:Value) (w:World):Calls prog 52 #[.agg #[v0,f,v2],.agg #[a,p1,p2,b,c,d,r]] w fun e w'=>e=.returned (.func (.func 92) #[] #[.pointer (pA w.heap.size),.pointer (pA (w.heap.size+1))])/\w'=(w.alloc (.cells #[v0,f,v2] 62)).alloc (.cells #[a,p1,p2,b,c,d,r] 27):=by go_enter func52,ntmps52;go_wp2;go_ret;exact⟨rfl,rfl⟩
end
def zla {a b d a' b' d':Value} (h:x.heap[g]?=some (.cells #[a,b,d] e (0,0))) :
  (((x.setCell (E g 0) a').setCell (E g 1) b').setCell (E g 2) d').cell? (E g 0)=some a'/\(((x.setCell (E g 0) a').setCell (E g 1) b').setCell (E g 2) d').cell? (E g 1)=some b'/\(((x.setCell (E g 0) a').setCell (E g 1) b').setCell (E g 2) d').cell? (E g 2)=some d':=by
 have hb:(((x.setCell (E g 0) a').setCell (E g 1) b').setCell (E g 2) d').heap[g]?=some (.cells #[a',b',d'] e (0,0)):=by simp [World.setCell,QC,h]
 refine⟨?_,?_,?_⟩ <;> (rw [Qa hb];rfl)
theorem yQ.set {i:Nat} {d:Array Value} {z:Nat × Nat} (h:yQ x v K) (hb:x.heap[g]?=some (.cells d e z)) (A:d.size<10) (u:Value):yQ (x.setCell (E g i) u) v K:=by
 obtain⟨kv,l,a,cap,m,h1,p,q⟩:=h;refine⟨kv,l,a,cap,m,h1,p,fun k=>?_⟩;obtain⟨b,c,n,y,r⟩:=q k;have o:b≠g:=fun t=>by
  subst t;have f:=r 0 k 9 (by omega);rw [show (yZ (zv K.ops 0))[9]?=some (J (zv K.ops 0).nn) from rfl] at f;have s:(x.cell? (E b (c+0*10+9))).isSome:=by rw [f];rfl
  simp [World.cell?,hb] at s;omega
 refine⟨b,c,n,by simp_all,fun i hi j B=>?_⟩;rw [xX (Qj _ _ _ _ o)];grind
theorem zM.set {c:Nat} {b:Nat} (h:zM y (.slice (pA g) n c) T) (hb:b≠g) (i:Nat) (v:Value):zM (y.setCell (E b i) v) (.slice (pA g) n c) T:=by obtain⟨a,cap,e,h1,j,k,l⟩:=h;refine⟨a,cap,e,h1,j,k,fun o=>?_⟩;obtain⟨b',d,f,p,m⟩:=l o;injection e with e3;rw [f] at e3;injection e3 with e3;injection e3 with e3 e4;refine⟨b',d,f,by simp_all,fun i hi=>?_⟩;rw [xX (Qj _ _ _ _ (show b'≠b by omega))];exact m i hi
def zlh:Prop:=∀(v pv dv:Value) (t:Tg) (L:Lp) (P:Int) (T D:List Int) (w:World),zI w v L->Xs w pv P T->zM w dv D->zZ L t P T=true->ZN L t D=true->Calls prog 96 #[v,.agg t.cells,pv,dv] w (zfs L t P T D w)
def yi2 (L:Lp) (t:Tg) (P:Int) (T:List Int) (w:World) (e:Ending) (w':World):Prop :=
 Bw w w'/\∃k0 k1 kv c,e=.returned (.tuple #[.agg #[J k0,J k1,kv],J c]) /\
  ((c=1/\kv=.slice none 0 0/\zbv L t P T none) \/
   (c=0/\∃D,yQ w' (.agg #[J k0,J k1,kv]) (Zy L t P T D)/\zbv L t P T (some (Zy L t P T D))))
def zm5 (hR:zln) (hE:zlh) (t:Tg) (L:Lp) (a0 h j:Option Addr) (k m n:Nat) (P:Int) (T:List Int) (ta:Option Addr) (u tc:Nat) (w:World)
  (hL:zI w ((lv L a0 h j k m n)) L) (hP:Xs w (.agg #[J P,.slice ta u tc]) P T) (G:zZ L t P T=true) :
  Calls prog 53 #[(lv L a0 h j k m n),(tV t),.agg #[J P,.slice ta u tc]] w fun e w'=>yi2 L t P T w e w':=by
 have HL:=Z hL;have HP:=Z hP;have dL:=Z (fun W (B:Bw w W)=>hR _ _ t L P T W (HL.gE B) (HP.gE B) G);have dx:=Z (fun W dv D (B:Bw w W) (A:zM W dv D) x=>hE _ _ dv t L P T D W (HL.gE B) (HP.gE B) A G x);have aC:=Z G;obtain⟨g,q⟩:=nm ((((w.alloc (lC L a0 h j k m n)).alloc (tO t)).alloc (.cells #[J P,.slice ta u tc] 110)).alloc (kB 0 0 none 0 0));have K:Hid (Bw w g):=by show Below _ _ _;rw [<-q];exact ((QJ _ _ _ _).alloc (by simp;omega) _)
 have cL:Hid (g.heap.size=w.heap.size+4):=by show _=_;rw [<-q];simp
 have e1:(w.alloc (lC L a0 h j k m n)).heap.size=w.heap.size+1:=by simp
 have e2:((w.alloc (lC L a0 h j k m n)).alloc (tO t)).heap.size=w.heap.size+1+1:=by simp
 have e3:(((w.alloc (lC L a0 h j k m n)).alloc (tO t)).alloc (.cells #[J P,.slice ta u tc] 110)).heap.size=w.heap.size+1+1+1:=by simp
 have M:Hid (∀y,Bw g y->((y.cell? (E w.heap.size 0)=some (.slice a0 L.l.length k)/\y.cell? (E w.heap.size 1)=some (.slice h L.b.length m)/\y.cell? (E w.heap.size 2)=some (.slice j L.o.length n))/\(y.cell? (E (w.heap.size+1) 0)=Y t.u0/\y.cell? (E (w.heap.size+1) 1)=Y t.u1/\y.cell? (E (w.heap.size+1) 2)=Y t.u2/\y.cell? (E (w.heap.size+1) 3)=Y t.w0/\y.cell? (E (w.heap.size+1) 4)=Y t.w1/\y.cell? (E (w.heap.size+1) 5)=Y t.w2/\y.cell? (E (w.heap.size+1) 6)=Y t.r)/\(y.cell? (E (w.heap.size+1+1) 0)=Y P/\y.cell? (E (w.heap.size+1+1) 1)=some (.slice ta u tc)))/\y.heap[w.heap.size+1+1+1]?=some (kB 0 0 none 0 0)):=fun y p=>by
  have hs:=cL.out;have b3:y.heap[w.heap.size+1+1+1]?=some (kB 0 0 none 0 0):=by rw [p.block _ (by omega),<-q,<-e3];exact zm _ _ _
  have b2:y.heap[w.heap.size+1+1]?=some (.cells #[J P,.slice ta u tc] 110 (0,0)):=by rw [p.block _ (by omega),<-q,Qr _ _ _ (by omega),<-e2];exact zm _ _ _
  have b1:y.heap[w.heap.size+1]?=some (tO t):=by rw [p.block _ (by omega),<-q,Qr _ _ _ (by omega),Qr _ _ _ (by omega),<-e1];exact zm _ _ _
  have b0:y.heap[w.heap.size]?=some (lC L a0 h j k m n):=by rw [p.block _ (by omega),<-q,Qr _ _ _ (by omega),Qr _ _ _ (by omega),Qr _ _ _ (by omega)];exact zm _ _ _
  refine⟨⟨⟨?_,?_,?_⟩,⟨?_,?_,?_,?_,?_,?_,?_⟩,?_,?_⟩,b3⟩;all_goals first | (rw [Qa b0];rfl) | (rw [Qa b1];rfl) | (rw [Qa b2];rfl)
 have O:Hid (∀y,Bw g y->w.heap.size+4<=y.heap.size):=fun y p=>by have:=p.size;have:=cL.out;omega
 obtain⟨⟨⟨l0,l1,l2⟩,⟨t0,t1,t2,t3,t4,t5,t6⟩,V,X⟩,-⟩:=M g (QA _ _);have ek:=O g (QA _ _);clear hL hP G e1 e2 e3;go_enter func53,ntmps53;go_wp2_with fail;refine (dL g K).mono ?_;rintro e f ⟨hb,da,dl,dc,c,rfl,bV⟩;have z:=Z hb;clear hb l0 l1 l2 t0 t1 t2 t3 t4 t5 t6 V X ek q;obtain⟨⟨⟨l0,l1,l2⟩,⟨t0,t1,t2,t3,t4,t5,t6⟩,V,X⟩,a⟩:=M f z;have ef:=O f z;rcases bV with ⟨rfl,rfl,s⟩ | ⟨rfl,D,A,s⟩
 ·have k0:f.cell? (E (w.heap.size+1+1+1) 0)=Y 0:=cb a
  have k1:f.cell? (E (w.heap.size+1+1+1) 1)=Y 0:=cb a
  have k2:f.cell? (E (w.heap.size+1+1+1) 2)=some (.slice none 0 0):=cb a
  have f0:f.frozen? (E (w.heap.size+1+1+1) 0)=false:=by simp [World.frozen?,a]
  have f1:f.frozen? (E (w.heap.size+1+1+1) 1)=false:=by simp [World.frozen?,a]
  have f2:f.frozen? (E (w.heap.size+1+1+1) 2)=false:=by simp [World.frozen?,a]
  have HF:Hid (∀y,Bw w y->yi2 L t P T w (.returned (.tuple #[.agg #[J 0,J 0,.slice none 0 0],J 1])) y):=fun y p=>⟨p,0,0,_,1,rfl,.inl ⟨rfl,rfl,none,s,rfl⟩⟩;have H:Hid (Bw w f):=K.tm z;have F:=Z a;have Q:=Z (zla (a':=J 0) (b':=J 0) (d':=.slice none 0 0) a);clear a s;go_wp2;obtain⟨R,S,U⟩:=Q;exact bodyPost_ret (v:=.tuple #[.agg #[J 0,J 0,.slice none 0 0],J 1]) (by simp [results,results53,go_sem,R,S,U]) rfl (HF _ (((H.setCell (by grind) _).setCell (by grind) _).setCell (by grind) _))
 have HD:=Z A;have x:=s.dests aC;have H:Hid (Bw w f):=K.tm z;obtain⟨da2,dc2,dU,-⟩:=id A;injection dU with d1 d2 d3;subst d1;subst d2;subst d3;have cX:znp L t P T D=Zy L t P T D/\zno L t P T D=0:=by unfold znp zno;rw [aC,x];exact⟨rfl,rfl⟩
 have cg:=Z cX;have dM:=Z s;clear s;have dy:=Z (dx f _ D H HD x);clear A x cX a;go_wp2_with fail;refine dy.mono ?_;rintro e d ⟨N,k0,k1,kv,rfl,I⟩;rw [cg.1] at I;rw [cg.2];have bY:=Z N;have cS:Hid (Bw g d):=z.tm N;obtain⟨-,a⟩:=M d cS;have eh:=O d cS;have HK:=Z I;obtain⟨kl,aD,ka,kc,rfl,-⟩:=id I;simp only [El,Ex,W9,and_true] at aD;obtain⟨-,-,rfl⟩:=aD;have c0:d.cell? (E (w.heap.size+1+1+1) 0)=Y 0:=cb a
 have c1:d.cell? (E (w.heap.size+1+1+1) 1)=Y 0:=cb a
 have c2:d.cell? (E (w.heap.size+1+1+1) 2)=some (.slice none 0 0):=cb a
 have f0:d.frozen? (E (w.heap.size+1+1+1) 0)=false:=by simp [World.frozen?,a]
 have f1:d.frozen? (E (w.heap.size+1+1+1) 1)=false:=by simp [World.frozen?,a]
 have f2:d.frozen? (E (w.heap.size+1+1+1) 2)=false:=by simp [World.frozen?,a]
 have F:=Z a;generalize C:(Zy L t P T D).ops.length=kn at *
 have Q:=Z (zla (a':=J k0) (b':=J k1) (d':=.slice ka kn kc) a);have eq:=Z C;clear l0 l1 l2 t0 t1 t2 t3 t4 t5 t6 V X N I a C;go_wp2;obtain⟨R,S,U⟩:=Q;refine bodyPost_ret (v:=.tuple #[.agg #[J k0,J k1,.slice ka kn kc],J 0]) (by simp [results,results53,go_sem,R,S,U]) rfl ?_;have aS:Bw w d:=H.tm bY;refine⟨((aS.setCell (by grind) _).setCell (by grind) _).setCell (by grind) _,k0,k1,_,0,rfl,.inr ⟨rfl,D,?_,some D,dM.out,rfl⟩⟩;have h1:=HK.out.set (i:=0) F.out (by show 3<10;omega) (J k0);have b1:(d.setCell (E (w.heap.size+1+1+1) 0) (J k0)).heap[w.heap.size+1+1+1]?=some (kB k0 0 none 0 0):=by simp [World.setCell,QC,F.out]
 have h2:=h1.set (i:=1) b1 (by show 3<10;omega) (J k1);have b2:((d.setCell (E (w.heap.size+1+1+1) 0) (J k0)).setCell (E (w.heap.size+1+1+1) 1) (J k1)).heap[w.heap.size+1+1+1]?=some (kB k0 k1 none 0 0):=by simp [World.setCell,QC,F.out]
 exact h2.set (i:=2) b2 (by show 3<10;omega) _
def zo6 (n:Nat) (x:World) (hn:n<=16):Calls prog 54 #[J (n:Int)] x fun e w'=>e=.returned (.slice (pA x.heap.size) n n)/\Bw x w'/\zM w' (.slice (pA x.heap.size) n n) (X8 n):=by
 have l:=run_make_row' (P:=prog) 34 3 (J 0) 8 underlying34 Tryz.j3 rfl .i64 .i64 n (by omega) (by omega);have c:Hid (zr (x.alloc (.cells (madeCells #[J 0] n) 3)) x.heap.size 3 n (fun v=>J (if v<0 then (v:Int) else 0))):=zr.zeros x _ n _;have f:Hid (Bw x (x.alloc (.cells (madeCells #[J 0] n) 3))):=Qd _ _;go_enter func54,ntmps54;go_wp2;go_loopw [9] (fun i wr=>∃k:Nat,k<=n/\i=J k/\Bw x wr/\zr wr x.heap.size 3 n (fun v=>J (if v<k then (v:Int) else 0))) (fun i _=>n - (intOf i).toNat)
 case atStart=>exact⟨0,by omega,rfl,f,c⟩
 clear c f l;obtain⟨k,q,rfl,b,a⟩:=hrel;have d:=Z b;have m:=Z a;by_cases h:k<n
 ·have j:(k:Int)<(n:Int):=by omega
  have o:wr.cell? (E x.heap.size k)=Y 0:=by grind [zr.cell]
  have r:=a.lt;have p:=a.frozen k;clear b a;go_wp2;go_roundw
  case rel =>
   refine⟨k+1,by omega,by go_num,d.setCell (Qc _) _,(m.set k _ h).congr fun i hi=>?_⟩;grind
  simp [intOf];omega
 have e:k=n:=by omega
 subst e;have j:¬(k:Int)<(k:Int):=by omega
 have g:Hid (zM wr (.slice (pA x.heap.size) k k) (X8 k)):=by
  refine⟨some (E x.heap.size 0),k,by rw [zco],by grind [zco],by unfold maxLen;omega,fun i hi=>?_,fun _=>⟨x.heap.size,0,rfl,a.lt,fun i hi=>?_⟩⟩
  ·grind [zco,zuj]
  grind [zco,zuj,zr.cell]
 clear b a;go_wp2;exact bodyPost_ret (v:=.slice (pA x.heap.size) k k) (by simp [results,results54,go_sem]) rfl ⟨rfl,d,g⟩
section
attribute [local go_sem] Oper.semAt_some
def yQ.ck (h:yQ A v K) (k:Ck A B):yQ B v K:=by obtain⟨kv,e,a,cap,g,h1,m,n⟩:=h;refine⟨kv,e,a,cap,g,h1,m,fun q=>?_⟩;obtain⟨b,c,l,o,p⟩:=n q;refine⟨b,c,l,Qu o k.size,fun i hi j f=>?_⟩;have d:=p i hi j f;obtain⟨u,r⟩:∃u,(yZ (zv K.ops i))[j]?=some u:=⟨_,WA (show j<(yZ (zv K.ops i)).size from f)⟩;rw [r] at d ⊢;exact k.cell _ _ d
def ya4 (B:Nat) (w:World) (v:Value) (zs:List Int):Prop:=zM w v zs/\∀a n c,v=.slice (some a) n c->B<=a.block
def zlf (L:Lp) (t:Tg) (w:World) (e:Ending) (w':World):Prop :=
 Bw w w'/\∃k0 k1 kv oa ol oc c,e=.returned (.tuple #[.agg #[J k0,J k1,kv],.slice oa ol oc,J c]) /\
  ((zQ L && zS t)=false->c=2/\ol=0/\yQ w' (.agg #[J k0,J k1,kv]) ⟨0,0,[]⟩) /\
  ((zQ L && zS t)=true->(c=1/\ol=0/\yQ w' (.agg #[J k0,J k1,kv]) ⟨0,0,[]⟩/\yN L t 1 none)\/(c=0/\∃K,yQ w' (.agg #[J k0,J k1,kv]) K/\ya4 w.heap.size w' (.slice oa ol oc) (X8 L.b.length)/\yN L t 1 (some K)))
def zjs (w:World):yQ w (.agg #[J 0,J 0,.slice none 0 0]) ⟨0,0,[]⟩:=⟨_,rfl,none,0,rfl,Qc _,Ql _,fun h=>absurd h (qC _)⟩
def zt4 (h:zZ L t P T=true):yv P T L.b.length*P<=1200:=by
 obtain⟨hm,d,g,f,hlen,hT,-⟩:=yw h;have h1:yv P T L.b.length<=1000 / P+1:=ze5 P T _ (by have:=WY (show (0:Int)<=1000 by omega) (show 0<=P by omega);omega) _ fun s hs=>by have a:=zq hT s (by omega);unfold VS at a;simp only [Qg,QE] at a;have c:=zH.1 a.1;have i:=Int.ediv_le_ediv (show 0<P by omega) c.2;omega
 have a:=Wx h1 (show 0<=P by omega);have c:=Int.ediv_mul_le 1000 (show P≠0 by omega);grind
def zxa {D:List Int} (a:zZ L t P T=true) (d:P<=xU L t):(ZL L t:Int)<=(Zy L t P T D).pc/\(xS L t:Int)<=(Zy L t P T D).pc/\(Zy L t P T D).pc<=xU L t/\(Zy L t P T D).st*(Zy L t P T D).pc<=1200:=by
 obtain⟨-,-,f,-,-⟩:=yw a;have c:((P.toNat:Nat):Int)=P:=WH (by omega);have b:zZ L t (P.toNat:Int) T=true:=by rw [c];exact a
 have g:=zel b;have h:=zch b;exact⟨by show _<=P;omega,by show _<=P;omega,d,zt4 a⟩
def zfy {a b c d p1 p2 f g i r:Value} (h:Below (w.heap.size+5) (((((w.alloc (.cells #[a,b,c] 62)).alloc (.cells #[d,p1,p2,f,g,i,r] 27)).alloc (kB 0 0 none 0 0)).alloc (.cells #[.slice none 0 0] 34)).alloc (.cells #[J 0] 63)) y) :
  y.heap[w.heap.size]?=some (.cells #[a,b,c] 62 (0,0))/\y.heap[w.heap.size+1]?=some (.cells #[d,p1,p2,f,g,i,r] 27 (0,0))/\y.heap[w.heap.size+1+1]?=some (kB 0 0 none 0 0)/\y.heap[w.heap.size+1+1+1]?=some (.cells #[.slice none 0 0] 34 (0,0))/\y.heap[w.heap.size+1+1+1+1]?=some (.cells #[J 0] 63 (0,0)):=by
 have j:(w.alloc (.cells #[a,b,c] 62)).heap.size=w.heap.size+1:=by simp
 have k:((w.alloc (.cells #[a,b,c] 62)).alloc (.cells #[d,p1,p2,f,g,i,r] 27)).heap.size=w.heap.size+1+1:=by simp
 have l:(((w.alloc (.cells #[a,b,c] 62)).alloc (.cells #[d,p1,p2,f,g,i,r] 27)).alloc (kB 0 0 none 0 0)).heap.size=w.heap.size+1+1+1:=by simp
 have m:((((w.alloc (.cells #[a,b,c] 62)).alloc (.cells #[d,p1,p2,f,g,i,r] 27)).alloc (kB 0 0 none 0 0)).alloc (.cells #[.slice none 0 0] 34)).heap.size=w.heap.size+1+1+1+1:=by simp
 refine⟨?_,?_,?_,?_,?_⟩;all_goals rw [h.block _ (by omega)]
 ·rw [Qr _ _ _ (by omega),Qr _ _ _ (by omega),Qr _ _ _ (by omega),Qr _ _ _ (by omega)];exact zm _ _ _
 ·rw [Qr _ _ _ (by omega),Qr _ _ _ (by omega),Qr _ _ _ (by omega),<-j];exact zm _ _ _
 ·rw [Qr _ _ _ (by omega),Qr _ _ _ (by omega),<-k];exact zm _ _ _
 ·rw [Qr _ _ _ (by omega),<-l];exact zm _ _ _
 grind [zm]
def yac (w:World) (g h i b p1 p2 c d f r:Value):∃W,((((w.alloc (.cells #[g,h,i] 62)).alloc (.cells #[b,p1,p2,c,d,f,r] 27)).alloc (kB 0 0 none 0 0)).alloc (.cells #[.slice none 0 0] 34)).alloc (.cells #[J 0] 63)=W/\W.heap.size=w.heap.size+5/\Bw w W/\(∀y,Bw W y->y.heap[w.heap.size+1+1]?=some (kB 0 0 none 0 0)/\y.heap[w.heap.size+1+1+1]?=some (.cells #[.slice none 0 0] 34 (0,0))/\y.heap[w.heap.size+1+1+1+1]?=some (.cells #[J 0] 63 (0,0)))/\∀y,Bw W y->(y.cell? (E w.heap.size 0)=some g/\y.cell? (E w.heap.size 1)=some h/\y.cell? (E w.heap.size 2)=some i)/\(y.cell? (E (w.heap.size+1) 0)=some b/\y.cell? (E (w.heap.size+1) 1)=some p1/\y.cell? (E (w.heap.size+1) 2)=some p2/\y.cell? (E (w.heap.size+1) 3)=some c/\y.cell? (E (w.heap.size+1) 4)=some d/\y.cell? (E (w.heap.size+1) 5)=some f/\y.cell? (E (w.heap.size+1) 6)=some r)/\w.heap.size+5<=y.heap.size:=by
 have hs:(((((w.alloc (.cells #[g,h,i] 62)).alloc (.cells #[b,p1,p2,c,d,f,r] 27)).alloc (kB 0 0 none 0 0)).alloc (.cells #[.slice none 0 0] 34)).alloc (.cells #[J 0] 63)).heap.size=w.heap.size+5:=by simp
 refine⟨_,rfl,hs,((QJ _ _ _ _).alloc (by simp;omega) _).alloc (by simp;omega) _,fun y a=>(zfy (by rw [<-hs];exact a)).2.2,fun y a=>?_⟩;obtain⟨b0,b1,-⟩:=zfy (by rw [<-hs];exact a);have:=a.size;refine⟨⟨?_,?_,?_⟩,⟨?_,?_,?_,?_,?_,?_,?_⟩,by omega⟩;all_goals first | (rw [Qa b0];rfl) | (rw [Qa b1];rfl)
def zlg (L:Lp) (t:Tg) (w W:World):Prop:=Bw w W/\∃k0 k1 kv ov K,W.heap[w.heap.size+1+1]?=some (.cells #[J k0,J k1,kv] 75 (0,0))/\W.heap[w.heap.size+1+1+1]?=some (.cells #[ov] 34 (0,0))/\W.heap[w.heap.size+1+1+1+1]?=some (.cells #[J 0] 63 (0,0)) /\
 yQ W (.agg #[J k0,J k1,kv]) K/\ya4 w.heap.size W ov (X8 L.b.length)/\yN L t 1 (some K)
def zlg.put {l:Nat} {a:Obj} (h:zlg L t w A) (k:w.heap.size+5<=l) (hA:A.heap[l]?=some o) (j:o.isCells=false):zlg L t w (A.putObj l a):=by obtain⟨hb,k0,k1,kv,ov,K,h1,d,f,g,b,i⟩:=h;have c:=Ck.put a hA j;exact⟨hb.trans (zda a hA (by omega)),k0,k1,kv,ov,K,(World.putObj_heap_other (by omega)).trans h1,(World.putObj_heap_other (by omega)).trans d,(World.putObj_heap_other (by omega)).trans f,g.ck c,⟨b.1.ck c,b.2⟩,i⟩
def zg1 {B:Nat} {r u0 u1 u2 u3:Value} (h0:y.heap[B+1+1]?=some (.cells #[k0,k1,kv] ta (0,0))) (h1:y.heap[B+1+1+1]?=some (.cells #[ov] tb (0,0))) (s:y.heap[B+1+1+1+1]?=some (.cells #[r] tc (0,0))) (hb:Below n w y) (hn:n<=B) :
  ∃ V,((((y.setCell (E (B+1+1) 0) u0).setCell (E (B+1+1) 1) u1).setCell (E (B+1+1) 2) u2).setCell (E (B+1+1+1) 0) u3).setCell (E (B+1+1+1+1) 0) c=V/\Below n w V/\(V.heap.size=y.heap.size/\∀k,B+5<=k->V.heap[k]?=y.heap[k]?)/\(V.heap[B+1+1]?=some (.cells #[u0,u1,u2] ta (0,0))/\V.heap[B+1+1+1]?=some (.cells #[u3] tb (0,0))/\V.heap[B+1+1+1+1]?=some (.cells #[c] tc (0,0))) /\
    (∀v K,yQ y v K->yQ V v K)/\(∀g m q T,B+5<=g->zM y (.slice (pA g) m q) T->zM V (.slice (pA g) m q) T):=by
 have b1:∀{x:World} {g i:Nat} {e:TypeId} {d:Array Value} {u:Value},x.heap[g]?=some (.cells d e (0,0))->(x.setCell (E g i) u).heap[g]?=some (.cells (d.setIfInBounds i u) e (0,0)):=fun h=>by simp [World.setCell,QC,h]
 have b2:∀{x:World} {g k i:Nat} {o:Option Obj} {u:Value},x.heap[k]?=o->k≠g->(x.setCell (E g i) u).heap[k]?=o:=fun h p=>by rw [Qj _ _ _ _ p];exact h
 have a:B+1+1+1≠B+1+1:=by omega
 have b:B+1+1+1+1≠B+1+1:=by omega
 have f:B+1+1+1+1≠B+1+1+1:=by omega
 have j:=b2 (i:=2) (u:=u2) (b2 (i:=1) (u:=u1) (b2 (i:=0) (u:=u0) h1 a) a) a
 have l:=b2 (i:=0) (u:=u3) (b2 (i:=2) (u:=u2) (b2 (i:=1) (u:=u1) (b2 (i:=0) (u:=u0) s b) b) b) f
 refine⟨_,rfl,((((hb.setCell (by grind) _).setCell (by grind) _).setCell (by grind) _).setCell (by grind) _).setCell (by grind) _,⟨by simp [World.setCell],fun k p=>b2 (b2 (b2 (b2 (b2 rfl (by omega)) (by omega)) (by omega)) (by omega)) (by omega)⟩,⟨b2 (b2 (b1 (b1 (b1 h0))) a.symm) b.symm,b2 (b1 j) f.symm,b1 l⟩,fun v K h=>?_,fun g m q T t h=>?_⟩
 ·exact ((((h.set h0 (by show 3<10;omega) _).set (b1 h0) (by simp) _).set (b1 (b1 h0)) (by simp) _).set j (by show 1<10;omega) _).set l (by show 1<10;omega) _
 ·exact ((((h.set (by omega) _ _).set (by omega) _ _).set (by omega) _ _).set (by omega) _ _).set (by omega) _ _
def Yb {B:Nat} (h0:V.heap[B+1+1]?=some (.cells #[k0,k1,kv] ta (0,0))) (h1:V.heap[B+1+1+1]?=some (.cells #[ov] tb (0,0))) (a:V.heap[B+1+1+1+1]?=some (.cells #[c] tc (0,0))) :
  V.cell? (E (B+1+1) 0)=some k0/\V.cell? (E (B+1+1) 1)=some k1/\V.cell? (E (B+1+1) 2)=some kv/\V.cell? (E (B+1+1+1) 0)=some ov/\V.cell? (E (B+1+1+1+1) 0)=some c:=by refine⟨?_,?_,?_,?_,?_⟩;all_goals first | (rw [Qa h0];rfl) | (rw [Qa h1];rfl) | (rw [Qa a];rfl)
def U2 {B:Nat} (h0:V.heap[B+1+1]?=some (.cells #[k0,k1,kv] ta (0,0))) (h1:V.heap[B+1+1+1]?=some (.cells #[ov] tb (0,0))) (a:V.heap[B+1+1+1+1]?=some (.cells #[c] tc (0,0))) :
  V.frozen? (E (B+1+1) 0)=false/\V.frozen? (E (B+1+1) 1)=false/\V.frozen? (E (B+1+1) 2)=false/\V.frozen? (E (B+1+1+1) 0)=false/\V.frozen? (E (B+1+1+1+1) 0)=false:=by refine⟨?_,?_,?_,?_,?_⟩ <;> simp [World.frozen?,h0,h1,a]
def zg0 {B D:Nat} (h0:V.heap[B+1+1]?=some (.cells #[k0,k1,kv] ta (0,0))) (h1:V.heap[B+1+1+1]?=some (.cells #[ov] tb (0,0))) (a:V.heap[B+1+1+1+1]?=some (.cells #[c] tc (0,0))) (b:B+5<=D) :
  (V.putObj D o).cell? (E (B+1+1) 0)=some k0/\(V.putObj D o).cell? (E (B+1+1) 1)=some k1/\(V.putObj D o).cell? (E (B+1+1) 2)=some kv/\(V.putObj D o).cell? (E (B+1+1+1) 0)=some ov/\(V.putObj D o).cell? (E (B+1+1+1+1) 0)=some c :=
 Yb ((World.putObj_heap_other (show B+1+1≠D by omega)).trans h0) ((World.putObj_heap_other (show B+1+1+1≠D by omega)).trans h1) ((World.putObj_heap_other (show B+1+1+1+1≠D by omega)).trans a)
def zvs (hM:zlj) (hO:yf3) (hR:zln) (hE:zlh) (t:Tg) (L:Lp) (a0 j m:Option Addr) (p z C:Nat) (w:World) (hm:zQ L=true) (ht:zS t=true)
  (hL:zI w ((lv L a0 j m p z C)) L) :
  Calls prog 24 #[(lv L a0 j m p z C),(tV t)] w fun e w'=>zlf L t w e w':=by
 obtain⟨W5,bO,aE,aR,aT,aU⟩:=yac w (.slice a0 L.l.length p) (.slice j L.b.length z) (.slice m L.o.length C) (J t.u0) (J t.u1) (J t.u2) (J t.w0) (J t.w1) (J t.w2) (J t.r);have aJ:=Z aE;have ah:=Z aR;have ae:=Z aT;have af:=Z aU;clear aE aR aT aU;have HL:=Z hL;have bG:=Z (fun W (h:zI W ((lv L a0 j m p z C)) L)=>hm ▸ Yo _ L W h);have bL:=Z (fun W=>ht ▸ zp1 t W);obtain⟨⟨l0,l1,l2⟩,⟨t0,t1,t2,t3,t4,t5,t6⟩,hz⟩:=af W5 (QA _ _);have HM:=Z hm;have HT:=Z ht;clear hL hm ht;obtain⟨n,-⟩:∃n:Nat,True:=⟨3,trivial⟩;refine (callsIn_wide (n:=n)).1 ?_;refine callsIn_of_wp_marks func24 rfl trivial ?_ rfl;simp only [ntmps24,EG,Q5,List.length_nil,Nat.reduceAdd,Nat.reduceSub,Array.replicate_succ,Array.replicate_zero,List.push_toArray,List.append_toArray,W8,EM];gi_wp2_with fail;refine VW (bG W5 (HL.gE ah)) ?_;rintro e x1 ⟨rfl,ao⟩;have ac:=Z ao;clear bO l0 l1 l2 t0 t1 t2 t3 t4 t5 t6 hz ao;obtain⟨⟨l0,l1,l2⟩,⟨t0,t1,t2,t3,t4,t5,t6⟩,hz⟩:=af x1 ac;gi_wp2_with fail;refine VW (bL x1) ?_;rintro e F ⟨rfl,ag⟩;have ai:Hid (Bw W5 F):=ac.tm ag;clear l0 l1 l2 t0 t1 t2 t3 t4 t5 t6 hz ag;obtain⟨⟨l0,l1,l2⟩,⟨t0,t1,t2,t3,t4,t5,t6⟩,hz⟩:=af F ai;gi_wp2_with fail;refine VW (zy7 _ _ _ _ _ _ _ _ _ _ F) ?_;rintro e S ⟨rfl,rfl⟩;obtain⟨S,aW⟩:=nm ((F.alloc (lC L a0 j m p z C)).alloc (tO t));have aI:Hid (Bw F S):=by show Below _ _ _;rw [<-aW];exact QB _ _ _
 have aQ:Hid (Bw W5 S):=ai.tm aI;have aY:Hid (S.heap.size=F.heap.size+1+1):=by show _=_;rw [<-aW];simp
 have dw:Hid (S.heap[F.heap.size]?=some (lC L a0 j m p z C)):=by show _=_;rw [<-aW,Qr _ _ _ (by simp)];exact zm _ _ _
 have aO:Hid (S.heap[F.heap.size+1]?=some (tO t)):=by show _=_;rw [<-aW,<-World.size_alloc];exact zm _ _ _
 have dO:Hid (Bw w S):=ah.tm aQ;have dD:=Z (zy6 hM hO t L a0 j m p z C S F.heap.size (F.heap.size+1) HM HT (HL.gE dO) dw aO);clear l0 l1 l2 t0 t1 t2 t3 t4 t5 t6 hz;gi_wp2_with fail;clear aW
 refine zss (gf:=92) (lb:=#[.pointer (pA F.heap.size),.pointer (pA (F.heap.size+1))]) rfl (enters_of func92 (by kernel_rfl) rfl) dD.out rfl (fun la s x s' A B h k=>zmy.ck h k) (fun s=>∀q,yN L t s q->yN L t 1 q) (fun _ h=>h)
  (yN L t 1 none) (zlg L t w) ?res
  (fun x B=>{ tmps:=#[(lv L a0 j m p z C),(tV t),.pointer (pA w.heap.size),.pointer (pA (w.heap.size+1)),.pointer (pA (w.heap.size+1+1)),.pointer (pA (w.heap.size+1+1+1)),.pointer (pA (w.heap.size+1+1+1+1)),.pointer (pA B),undef,undef,(lv L a0 j m p z C),.bool true,.bool false,.bool false,(tV t),.bool true,.bool false,.bool false,undef,(lv L a0 j m p z C),(tV t),.func (.func 92) #[] #[.pointer (pA F.heap.size),.pointer (pA (F.heap.size+1))],zxz x,undef,undef,undef,undef,undef,undef,undef,undef,undef,undef,undef,undef,undef,undef,undef],defers:=[] }) (fun x=>.cells #[J x.1,.slice x.2.1 x.2.2.1 x.2.2.2] 110 (0,0)) ?assign ?body ?done ?stop
 case res =>intro A l o o' h hl hA ho;have:=aY.out;have:=ai.out.size;have:=aJ.out;exact h.put (by omega) hA ho
 case assign =>
  intro l k x W K g;dsimp only [zxz] at *
  gi_wp2_with fail;exact g
 case body =>
  rintro l k B la s ⟨P,ta,tl,tc⟩ s' W R aS ⟨T,hP,ab,cY,df⟩ hBs hB;dsimp only [zxz] at *
  have N:Hid (Bw W5 W):=aQ.tm aS;obtain⟨⟨l0,l1,l2⟩,⟨t0,t1,t2,t3,t4,t5,t6⟩,hz⟩:=af W N;have b0:W.cell? (E B 0)=Y P:=cb hB
  have b1:W.cell? (E B 1)=some (.slice ta tl tc):=cb hB
  have dG:=Z (zm5 hR hE t L a0 j m p z C P T ta tl tc W (HL.gE (ah.tm N)) hP ab);have aC:=Z ab;have au:=Z R;have cA:=Z cY;have cF:=Z df;clear R cY df;have dp:=Z aS;clear hP ab hB aS;gi_wp2_with fail;refine zsx dG ?_;rintro e d ⟨hb,k0,k1,kv,c,rfl,hc⟩;have U:=Z hb;clear l0 l1 l2 t0 t1 t2 t3 t4 t5 t6 hz b0 b1 hb;rcases hc with ⟨rfl,rfl,aK⟩ | ⟨rfl,D,hk,aK⟩
  ·have cD:=Z aK;clear aK;gi_wp2_with fail;refine⟨U.tm (Qd _ _),fun h q hq=>?_,fun h=>?_⟩
   ·obtain⟨G,H,I,rfl⟩:=cA h;exact au q (.next s P T q G H I cD hq)
   obtain⟨G,H,I⟩:=cF h;exact au none (.last s none I (by rw [<-H,<-show P=_ from G];exact aC) (by rw [<-H,<-show P=_ from G];exact cD))
  obtain⟨kl,aD,ka,kc,rfl,-⟩:=id hk;simp only [El,Ex,W9,and_true] at aD;obtain⟨-,-,rfl⟩:=aD;have HK:=Z hk;have dn:Hid (yN L t 1 (some (Zy L t P T D))):=by
   cases la with
   | false=>obtain⟨G,H,I,-⟩:=cA rfl;exact au _ (.here s P T _ G H I aC aK)
   | true=>obtain⟨G,H,I⟩:=cF rfl;exact au _ (.last s _ I (by rw [<-H,<-show P=_ from G];exact aC) (by rw [<-H,<-show P=_ from G];exact aK))
  clear aK;generalize hkn:(Zy L t P T D).ops.length=O at *
  clear hk hkn;have cE:Hid (∀y:World,Bw d y->(y.cell? (E w.heap.size 0)=some (.slice a0 L.l.length p)/\y.cell? (E w.heap.size 1)=some (.slice j L.b.length z)/\y.cell? (E w.heap.size 2)=some (.slice m L.o.length C))):=fun y hy=>(af y (N.tm (U.trans (hy.mono U.size)))).1;gi_wp2_with fail;obtain⟨f,bC⟩:=nm (d.alloc (kB k0 k1 ka O kc));have X:Hid (Bw d f):=by show Below _ _ _;rw [<-bC];exact Qd _ _
  obtain⟨l0,l1,l2⟩:=cE f X.out;have aa:f.heap[d.heap.size]?=some (kB k0 k1 ka O kc):=by rw [<-bC];exact zm _ _ _
  have c0:f.cell? (E d.heap.size 0)=Y k0:=cb aa
  have c1:f.cell? (E d.heap.size 1)=Y k1:=cb aa
  have c2:f.cell? (E d.heap.size 2)=some (.slice ka O kc):=cb aa
  have dP:=(zy HM.out).2.2.1;have dC:Hid (Calls prog 54 #[J (L.b.length:Int)] f.drew fun e w'=>e=.returned (.slice (pA f.heap.size) L.b.length L.b.length)/\Below f.heap.size f.drew w'/\zM w' (.slice (pA f.heap.size) L.b.length L.b.length) (X8 L.b.length)):=zo6 L.b.length f.drew dP;have aA:=Z aa;have eE:w.heap.size+5<=d.heap.size:=by have:=U.out.size;have:=N.out.size;have:=aJ.out;omega
  have cM:Hid (∀w':World,Bw f w'->((w'.cell? (E w.heap.size 0)=some (.slice a0 L.l.length p)/\w'.cell? (E w.heap.size 1)=some (.slice j L.b.length z)/\w'.cell? (E w.heap.size 2)=some (.slice m L.o.length C))/\w'.cell? (E d.heap.size 0)=Y k0/\w'.cell? (E d.heap.size 1)=Y k1/\w'.cell? (E d.heap.size 2)=some (.slice ka O kc))):=fun w' h=>by have hb:=(h.block _ (lo aA)).trans aA;refine⟨cE w' (X.tm h),?_,?_,?_⟩ <;> (rw [Qa hb];rfl)
  have aP:Hid (∀(v:World) (b i:Nat) (u:Value),((v.cell? (E w.heap.size 0)=some (.slice a0 L.l.length p)/\v.cell? (E w.heap.size 1)=some (.slice j L.b.length z)/\v.cell? (E w.heap.size 2)=some (.slice m L.o.length C))/\v.cell? (E d.heap.size 0)=Y k0/\v.cell? (E d.heap.size 1)=Y k1/\v.cell? (E d.heap.size 2)=some (.slice ka O kc))->b≠w.heap.size->b≠d.heap.size->(((v.setCell (E b i) u).cell? (E w.heap.size 0)=some (.slice a0 L.l.length p)/\(v.setCell (E b i) u).cell? (E w.heap.size 1)=some (.slice j L.b.length z)/\(v.setCell (E b i) u).cell? (E w.heap.size 2)=some (.slice m L.o.length C))/\(v.setCell (E b i) u).cell? (E d.heap.size 0)=Y k0/\(v.setCell (E b i) u).cell? (E d.heap.size 1)=Y k1/\(v.setCell (E b i) u).cell? (E d.heap.size 2)=some (.slice ka O kc))):=fun v b i u h h1 h2=>by obtain⟨⟨e0,e1,e2⟩,e3,e4,e5⟩:=h;refine⟨⟨?_,?_,?_⟩,?_,?_,?_⟩;all_goals (rw [xX (Qj _ _ _ _ (Ne.symm (by assumption)))];assumption)
  have gT:Hid (∀y,Bw f y->_):=fun y hy=>ae y (N.tm (U.trans ((X.trans (hy.mono X.size)).mono U.size)));rw [bC];clear bC aa;refine zmh 99 (fun w'=>((w'.cell? (E w.heap.size 0)=some (.slice a0 L.l.length p)/\w'.cell? (E w.heap.size 1)=some (.slice j L.b.length z)/\w'.cell? (E w.heap.size 2)=some (.slice m L.o.length C))/\w'.cell? (E d.heap.size 0)=Y k0/\w'.cell? (E d.heap.size 1)=Y k1/\w'.cell? (E d.heap.size 2)=some (.slice ka O kc))) (by kernel_rfl) (by kernel_rfl) (cM _ (Qm _ _ 1)) (fun h9=>?_);refine uk2 0 ?_;refine uk2 2 ?_;refine uo 4 fun K g=>?_;go_simp;refine dC.mono ?_;rintro e y3 ⟨rfl,cW,cZ⟩;have aI:Hid (Bw f y3):=(Qm f.heap.size f 1).trans cW;have dB:=Z cZ;have h9:=cM _ aI;clear cW cZ c0 c1 c2 l0 l1 l2;refine nxt g.out (.inr h9) ?_;clear g K;obtain⟨Q,r1,r2⟩:=gT y3 aI;obtain⟨n0,n1,n2,n3,n4⟩:=Yb Q r1 r2;obtain⟨f0,f1,f2,f3,f4⟩:=U2 Q r1 r2;have eD:d.heap.size<f.heap.size:=(lo aA);have aM:Bw w W:=ah.tm N;have bP:Bw W y3:=U.tm (X.trans (aI.mono X.size));have bI:=Z (zg1 (u0:=J k0) (u1:=J k1) (u2:=.slice ka O kc) (u3:=.slice (pA f.heap.size) L.b.length L.b.length) (c:=J 0) Q r1 r2 (aM.tm bP) (Qc _));have cN:=Z bP;have M:Hid (∀k,2<=k->k<=4->w.heap.size+k≠w.heap.size/\w.heap.size+k≠d.heap.size):=fun k h1 h2=>by omega
  have H5:=Z (aP _ _ 2 (.slice ka O kc) (aP _ _ 1 (J k1) (aP _ _ 0 (J k0) h9 (M 2 (by omega) (by omega)).1 (M 2 (by omega) (by omega)).2) (M 2 (by omega) (by omega)).1 (M 2 (by omega) (by omega)).2) (M 2 (by omega) (by omega)).1 (M 2 (by omega) (by omega)).2);have H6:=Z (aP _ _ 0 (.slice (pA f.heap.size) L.b.length L.b.length) H5 (M 3 (by omega) (by omega)).1 (M 3 (by omega) (by omega)).2);have H7:=Z (aP _ _ 0 (J 0) H6 (M 4 (by omega) (by omega)).1 (M 4 (by omega) (by omega)).2);clear aM bP Q r1 r2 h9;refine uo 5 fun K g=>?_;go_simp;refine nxt g.out (.inr H5.out) ?_;clear g K;refine uo 6 fun K g=>?_;go_simp;refine nxt g.out (.inr H6.out) ?_;clear g K;refine uo 7 fun K g=>?_;go_simp;refine nxt g.out (.inr H7.out) ?_;clear g K;refine zj (by kernel_rfl) ?_ _;refine zbw.normal ?_;gi_wp2_with fail;obtain⟨V,hV,aG,⟨eG,bS⟩,⟨v0,v1,v2⟩,bf,hIV⟩:=bI.out;rw [hV];have dm:=aY.out;have dj:=ai.out.size;have aE:=aJ.out;have eH:=cN.out.size;have eI:=dp.out.size;exact⟨by omega,fun q hq1 hq2=>(bS q (by omega)).trans (cN.out.block q hq2),aG,k0,k1,_,_,(Zy L t P T D),v0,v1,v2,bf _ _ (HK.out.gE (X.out.tm aI.out)),⟨hIV _ _ _ _ (by omega) dB.out,fun a n c e=>by injection e with e1;injection e1 with e1;rw [<-e1];show w.heap.size<=f.heap.size;omega⟩,dn.out⟩
 case done =>intro D W hD hf hb g;have HF:=Z hf;have N:Hid (Bw W5 W):=aQ.out.tm hb;have aM:Bw w W:=ah.out.tm N.out;obtain⟨Q,r1,r2⟩:=ae.out W N.out;obtain⟨n0,n1,n2,n3,n4⟩:=Yb Q r1 r2;obtain⟨f0,f1,f2,f3,f4⟩:=U2 Q r1 r2;have bI:=Z (zg1 (u0:=J 0) (u1:=J 0) (u2:=.slice none 0 0) (u3:=.slice none 0 0) (c:=J 1) Q r1 r2 aM (Qc _));have HK:=Z g;have dt:=Z hD;clear hb aM Q r1 r2 g hf hD;gi_wp2_with fail;obtain⟨V,hV,aG,⟨-,bS⟩,⟨v0,v1,v2⟩,-⟩:=bI.out;rw [hV];have hd:=dt.out;have dm:=aY.out;have dj:=ai.out.size;have aE:=aJ.out;have bf:=(bS D (by omega)).trans HK.out;obtain⟨g0,G,H,I,g4⟩:=zg0 (o:=.deferred none) v0 v1 v2 (show w.heap.size+5<=D by omega);refine⟨by simp,.inl ⟨_,_,rfl,run_takeDeferred bf,?_⟩⟩;refine⟨.tuple #[.agg #[J 0,J 0,.slice none 0 0],.slice none 0 0,J 1],by simp [results,results24,go_sem,g0,G,H,I,g4],aG.trans (zda _ bf (by omega)),0,0,_,none,0,0,1,rfl,fun h=>?_,fun _=>.inl ⟨rfl,rfl,zjs _,HF.out⟩⟩;rw [HM.out,HT.out] at h;cases h
 case stop =>intro D W hD hr g;obtain⟨hb,k0,k1,kv,ov,K,h0,h1,h2,hk,hi,dT⟩:=hr;gi_wp2_with fail;have dm:=aY.out;have dj:=ai.out.size;have aE:=aJ.out;obtain⟨g0,G,H,I,g4⟩:=zg0 (o:=.deferred none) h0 h1 h2 (show w.heap.size+5<=D by omega);have hc:=Ck.put (.deferred none) g rfl;obtain⟨oa,oc,rfl,ey⟩:=id hi.1;refine⟨by simp,.inl ⟨_,_,rfl,run_takeDeferred g,?_⟩⟩;refine⟨.tuple #[.agg #[J k0,J k1,kv],.slice oa (X8 L.b.length).length oc,J 0],by simp [results,results24,go_sem,g0,G,H,I,g4],hb.trans (zda _ g (by omega)),k0,k1,kv,oa,_,oc,0,rfl,fun h=>?_,fun _=>.inr ⟨rfl,K,hk.ck hc,⟨hi.1.ck hc,hi.2⟩,dT⟩⟩;rw [HM,HT] at h;cases h
def yag (t:Tg) (L:Lp) (a0 p q:Option Addr) (F G H:Nat) (w:World) (dg:(zQ L && zS t)=false)
  (hL:zI w ((lv L a0 p q F G H)) L) :
  Calls prog 24 #[(lv L a0 p q F G H),(tV t)] w fun e w'=>zlf L t w e w':=by
 obtain⟨n,bO,S,T,U,X⟩:=yac w (.slice a0 L.l.length F) (.slice p L.b.length G) (.slice q L.o.length H) (J t.u0) (J t.u1) (J t.u2) (J t.w0) (J t.w1) (J t.w2) (J t.r);have aJ:=Z S;have ah:=Z T;have d:=Z U;have x:=Z X;clear S T U X;have HL:=Z hL;have cH:=Z dg;have cx:Hid (∀V:World,Bw w V->zlf L t w (.returned (.tuple #[.agg #[J 0,J 0,.slice none 0 0],.slice none 0 0,J 2])) V):=fun V g=>⟨g,0,0,_,none,0,0,2,rfl,fun _=>⟨rfl,rfl,zjs _⟩,fun h=>absurd (cH.symm.trans h) (by simp)⟩;have cJ:=Z (fun y a=>Yb (d y a).1 (d y a).2.1 (d y a).2.2);have cw:=Z (fun y a=>U2 (d y a).1 (d y a).2.1 (d y a).2.2);have cu:=Z (fun y a=>zg1 (u0:=J 0) (u1:=J 0) (u2:=.slice none 0 0) (u3:=.slice none 0 0) (c:=J 2) (d y a).1 (d y a).2.1 (d y a).2.2 (ah.tm a) (Qc _));have bG:=Z (Yo _ L n (HL.gE ah));have bL:=Z (fun W=>zp1 t W);obtain⟨⟨l0,l1,l2⟩,⟨I,K,M,N,O,P,Q⟩,m⟩:=x n (QA _ _);clear hL dg;go_enter func24,ntmps24;go_wp2_with fail;refine bG.mono ?_;rintro e i ⟨rfl,ao⟩;have f:=Z ao;clear bO l0 l1 l2 I K M N O P Q m ao;obtain⟨⟨l0,l1,l2⟩,⟨I,K,M,N,O,P,Q⟩,m⟩:=x i f;obtain⟨n0,n1,n2,n3,n4⟩:=cJ i f;obtain⟨f0,f1,f2,f3,f4⟩:=cw i f;cases hm:zQ L with
 | false =>have u:=Z (cu i f);go_wp2;obtain⟨V,g,s,-,⟨v0,R,v2⟩,-⟩:=u;obtain⟨z,A,B,C,D⟩:=Yb v0 R v2;rw [g];exact bodyPost_ret (v:=.tuple #[.agg #[J 0,J 0,.slice none 0 0],.slice none 0 0,J 2]) (by simp [results,results24,go_sem,z,A,B,C,D]) rfl (cx _ s)
 | true =>
  have bT:zS t=false:=by have:=cH.out;rw [hm] at this;simpa using this
  have bM:=Z (bT ▸ bL i);clear hm bT;go_wp2_with fail;refine bM.mono ?_;rintro e j ⟨rfl,ag⟩;have k:Hid (Bw n j):=f.tm ag;clear l0 l1 l2 I K M N O P Q m ag n0 n1 n2 n3 n4 f0 f1 f2 f3 f4;obtain⟨-,-,m⟩:=x j k;obtain⟨n0,n1,n2,n3,n4⟩:=cJ j k;obtain⟨f0,f1,f2,f3,f4⟩:=cw j k;have u:=Z (cu j k);go_wp2;obtain⟨V,g,s,-,⟨v0,R,v2⟩,-⟩:=u;obtain⟨z,A,B,C,D⟩:=Yb v0 R v2;rw [g];exact bodyPost_ret (v:=.tuple #[.agg #[J 0,J 0,.slice none 0 0],.slice none 0 0,J 2]) (by simp [results,results24,go_sem,z,A,B,C,D]) rfl (cx _ s)
def VX:Prop:=∀(v:Value) (t:Tg) (L:Lp) (w:World),zI w v L->Calls prog 24 #[v,.agg t.cells] w (zlf L t w)
def yf9 (p:zlj) (q:yf3) (hR:zln) (o:zlh):VX:=fun v t L w f=>by
 have n:=f
 obtain⟨v0,s,v2,rfl,⟨a0,j,rfl,-⟩,⟨g,k,rfl,-⟩,⟨i,l,rfl,-⟩⟩:=n
 obtain⟨a,p1,p2,b,c,d,r⟩:=t
 by_cases h:(zQ L && zS ⟨a,p1,p2,b,c,d,r⟩)=true
 ·have m:zQ L=true/\zS ⟨a,p1,p2,b,c,d,r⟩=true:=by simpa using h
  exact zvs p q hR o ⟨a,p1,p2,b,c,d,r⟩ L a0 g i j k l w m.1 m.2 f
 ·exact yag ⟨a,p1,p2,b,c,d,r⟩ L a0 g i j k l w (by simpa using h) f
end
end
section
variable {t:Tg} {tx a b:List Int}
def okW:List Int:=[111,107]
def ZV:List Int:=[63]
def Uu:List Int:=[110,111,110,101]
def zey:List Int:=[98,97,100]
def yK:List Int:=[102,114,101,115,104]
def zW:List Int:=[109,97,99,104,105,110,101]
def yz:List Int:=[101,100,103,101,115]
def yx:List Int:=[98,111,117,110,100]
def yy:List Int:=[98,117,105,108,100]
def yM:List Int:=[116,117,114,110,115]
def yV (s:List Int):List Int->List Int
 | []=>s
 | n :: l=>yV ((if s=[] then s else s++[32])++zo n) l
def zax (s:List Int):Option Int:=if (1<=s.length/\s.length<=6)/\¬(s.head?=some 48/\1<s.length)/\(∀c∈s,48<=c/\c<=57) then some (Xa s) else none
def xB:List (List Int)->Option (List Int)
 | []=>some []
 | s :: l=>match zax s with
   | none=>none
   | some n=>match xB l with
     | none=>none
     | some ns=>some (n :: ns)
def tgD (ns:List Int):Tg:=⟨nth ns 0,nth ns 1,nth ns 2,nth ns 3,nth ns 4,nth ns 5,nth ns 6⟩
def ZM (L:Lp):List (List Int):=L.b.map fun _=>[0,0,0]
def ZQ (L:Lp):List (List Int):=L.l.map fun g=>List.replicate (2 ^ g.toNat) 0
def inK (L:Lp) (t:Tg) (K:Kn):List Int:=if yg L t K (X8 L.b.length)=true then U7 L t K (X8 L.b.length) (ZM L) else []
def zsu (L:Lp) (t:Tg) (K:Kn) (n:Int):List Int:=if yg L t K (X8 L.b.length)=true then zhn (inK L t K).length (UW t K (zK (ZQ L)) n (inK L t K) (ZQ L)) else []
def zf3 (L:Lp) (t:Tg) (K:Kn) (n:Int):List Int:=if yg L t K (X8 L.b.length)=true then Zm L t K (X8 L.b.length) (ZM L) (zsu L t K n) n else []
def XG (L:Lp) (n:Int):List Int:=Zg L (ZM L) n.toNat (zmj L (ZM L) n.toNat (XO (ZQ L)))
def zug (K:Kn):List Int:=K.ops.foldl (fun s o=>yV s [o.sl,o.sg,o.d]) (yV [] [K.pc,K.st])
def ze7 (L:Lp) (t:Tg) (K:Kn) (n:Int):List Int:=yV ((if yV [] (XG L n)=[] then yV [] (XG L n) else yV [] (XG L n)++[32])++[58]) (zf3 L t K n)
def UC (t:Tg) (tx Y0:List Int) (n:Int) (a:List Int):Prop :=
 if (yt tx).2.1≠0 then a=yV zey [((yt tx).2.2:Int)]
 else if Y0=yz then a=yV [] [((zf (yt tx).1 t).length:Int)]
 else if Y0=yx then a=yV [] [(ZL (yt tx).1 t:Int),(xS (yt tx).1 t:Int)]
 else if Y0=yy then ∃r,yN (yt tx).1 t 1 r/\a=match r with
  | none=>Uu
  | some K=>zug K
 else if inR n 0 200=false then a=ZV
 else ∃r,yN (yt tx).1 t 1 r/\a=match r with
  | none=>Uu
  | some K=>ze7 (yt tx).1 t K n
def UC.unique {Y0:List Int} {n:Int} (h:UC t tx Y0 n a) (k:UC t tx Y0 n b):a=b:=by
 unfold UC at h k;by_cases g:(yt tx).2.1≠0
 ·simp_all
 rw [Qe g] at h k;by_cases i:Y0=yz
 ·simp_all
 rw [Qe i] at h k;by_cases j:Y0=yx
 ·simp_all
 rw [Qe j] at h k;by_cases f:Y0=yy
 ·rw [Qf f] at h k;obtain⟨r,h1,c⟩:=h;obtain⟨m,k1,d⟩:=k;rw [c,d,h1.unique k1]
 rw [Qe f] at h k;by_cases l:inR n 0 200=false
 ·simp_all
 rw [Qe l] at h k;obtain⟨r,h1,c⟩:=h;obtain⟨m,k1,d⟩:=k;rw [c,d,h1.unique k1]
def Z7 (t:Tg) (tx l a:List Int) (t':Tg) (tx':List Int):Prop :=
 if l.take 2=[61,32] then a=yV okW [((tx++l.drop 2++[10]).length:Int)]/\t'=t/\tx'=tx++l.drop 2++[10]
 else if l=yK then a=okW/\t'=t/\tx'=[]
 else match xB (zx 32 l).tail with
  | none=>a=ZV/\t'=t/\tx'=tx
  | some ns =>
    if (zx 32 l).headD []=zW/\ns.length=7 then (if zS (tgD ns)=true then a=okW/\t'=tgD ns/\tx'=tx else a=ZV/\t'=t/\tx'=tx)
    else if l=yz\/l=yx\/l=yy then UC t tx l 0 a/\t'=t/\tx'=tx
    else if (zx 32 l).headD []=yM/\ns.length=1 then UC t tx yM (nth ns 0) a/\t'=t/\tx'=tx
    else a=ZV/\t'=t/\tx'=tx
def zvj {α β γ:Type} {a a' x:α} {b b' y:β} {c c' z:γ} (h:a=x/\b=y/\c=z) (k:a'=x/\b'=y/\c'=z):a=a'/\b=b'/\c=c':=by grind
def Z7.unique {l:List Int} {j m:Tg} {n o:List Int} (h:Z7 t tx l a j n) (k:Z7 t tx l b m o):a=b/\j=m/\n=o:=by
 unfold Z7 at h k;by_cases p:l.take 2=[61,32]
 ·simp_all
 rw [Qe p] at h k;by_cases q:l=yK
 ·simp_all
 rw [Qe q] at h k;cases f:xB (zx 32 l).tail with
 | none=>rw [f] at h k;exact zvj h k
 | some d =>
  rw [f] at h k;dsimp only at h k;by_cases g:(zx 32 l).headD []=zW/\d.length=7
  ·rw [Qf g] at h k;by_cases c:zS (tgD d)=true
   ·simp_all
   simp_all
  rw [Qe g] at h k;by_cases c:l=yz\/l=yx\/l=yy
  ·rw [Qf c] at h k;exact⟨h.1.unique k.1,h.2.1.trans k.2.1.symm,h.2.2.trans k.2.2.symm⟩
  rw [Qe c] at h k;by_cases i:(zx 32 l).headD []=yM/\d.length=1
  ·rw [Qf i] at h k;exact⟨h.1.unique k.1,h.2.1.trans k.2.1.symm,h.2.2.trans k.2.2.symm⟩
  rw [Qe i] at h k;exact zvj h k
def Ya:Tg->List Int->List (List Int)->List Int->Prop
 | _,_,[],ans=>ans=[]
 | t,tx,l :: ls,ans=>∃a t' tx' rest,Z7 t tx l a t' tx'/\Ya t' tx' ls rest/\ans=a++10 :: rest
def Ya.unique:∀{c:List (List Int)} {t:Tg} {tx a b:List Int},Ya t tx c a->Ya t tx c b->a=b
 | [],_,_,_,_,h,k=>by rw [h,k]
 | l :: c,t,tx,a,b,h,k=>by
   obtain⟨g,j,n,r1,h1,d,rfl⟩:=h
   obtain⟨i,m,o,r2,k1,f,rfl⟩:=k
   obtain⟨rfl,rfl,rfl⟩:=h1.unique k1
   rw [Ya.unique d f]
def Ya.app:∀{l1 l2:List (List Int)} {t:Tg} {tx a b:List Int},Ya t tx l1 a->Ya t tx (l1++l2) b->∃c,b=a++c
 | [],l2,t,tx,a,b,h,k=>⟨b,by rw [h];rfl⟩
 | l :: j,l2,t,tx,a,b,h,k=>by
   obtain⟨g,m,o,r1,h1,d,rfl⟩:=h
   obtain⟨i,n,p,r2,k1,f,rfl⟩:=k
   obtain⟨rfl,rfl,rfl⟩:=h1.unique k1
   obtain⟨c,rfl⟩:=Ya.app d f
   exact⟨c,by simp⟩
def Vh (ls:List (List Int)):List (List Int):=if ls.getLast?=some [] then ls.dropLast else ls
def zgu (s:List Int):List (List Int):=(Vh (zx 10 s)).take 60
def t0D:Tg:=⟨2,1,1,1,3,2,32⟩
def Vx (s ans:List Int):Prop:=Ya t0D [] (zgu s) ans
def Vx.unique {s:List Int} (h:Vx s a) (k:Vx s b):a=b:=Ya.unique h k
def zau (x:Int):∀(a b:List Int),zx x (a++x :: b)=zx x a++zx x b
 | [],b=>by rw [W8,XN];rfl
 | c :: a,b=>by
   by_cases e:c=x
   ·subst e
    simp [XN,zau]
   ·cases hs:zx x a with
    | nil=>exact absurd hs (xQ x a)
    | cons p d =>
      have h:=zau x a b
      rw [hs,EM] at h
      rw [EM,ZJ e h,ZJ e hs];rfl
def zi0 {a b:List (List Int)} (hb:b≠[]):Vh (a++b)=a++Vh b:=by
 unfold Vh;rw [List.getLast?_append];have h:b.getLast?.or a.getLast?=b.getLast?:=by
  cases h:b.getLast? with
  | none=>exact absurd (List.getLast?_eq_none_iff.1 h) hb
  | some x=>rfl
 grind
def Vx.on {x y:List Int} (h:Vx (a++[10]) x) (k:Vx (a++[10]++b) y):∃c,y=x++c:=by
 unfold Vx zgu at h k;have d:zx 10 (a++[10])=zx 10 a++[[]]:=by rw [zau 10 a []];rfl
 have f:zx 10 (a++[10]++b)=zx 10 a++zx 10 b:=by simp [zau]
 rw [d,zi0 (by simp)] at h;rw [f,zi0 (xQ 10 b)] at k;have g:Vh [[]]=[]:=rfl;rw [g,WJ] at h;rw [List.take_append] at k;exact Ya.app h k
end
def zd1 {P:List Int->Prop} (h0:P []) (h1:∀l c,P l->P (l++[c])):∀l,P l:=fun l=>by
 have key:∀m:List Int,P m.reverse:=by
  intro m
  induction m with
  | nil=>exact h0
  | cons c m ih=>rw [List.reverse_cons];exact h1 _ _ ih
 have h:=key l.reverse
 simp_all
def zqd:∀(l:List Int),(∀c∈l,48<=c/\c<=57)->0<=Xa l:=by
 refine zd1 ?_ ?_
 ·intro _;exact QR _
 intro l c ih;intro h;rw [VU];have h1:=ih fun d a=>h d (Wz _ a);have b:=h c (WZ _ (Eu c));omega
def yes:∀(l:List Int),(∀c∈l,48<=c/\c<=57)->l≠[]->l.head?≠some 48->0<Xa l:=by
 refine zd1 ?_ ?_
 ·simp_all
 intro l c ih;intro h _ b;rw [VU];have g:=h c (WZ _ (Eu c));cases a:l with
 | nil =>rw [a] at b;have:c≠48:=fun e=>b (by rw [e];rfl);show 0<10*0+(c - 48);omega
 | cons d m =>have h1:=ih (fun e f=>h e (Wz _ f)) (by rw [a];simp) (by simp_all);rw [a] at h1;omega
def zwb:∀(l:List Int),(∀c∈l,48<=c/\c<=57)->l≠[]->¬(l.head?=some 48/\1<l.length)->Zl (Xa l).toNat=l:=by
 refine zd1 ?_ ?_
 ·simp_all
 intro l c ih;intro h _ n;have o:=h c (WZ _ (Eu c));have g:∀e∈l,48<=e/\e<=57:=fun e k=>h e (Wz _ k);rw [VU];cases a:l with
 | nil =>show Zl (10*0+(c - 48)).toNat=[c];rw [Z2 (by omega)];congr 1;omega
 | cons d m =>
  have f:l≠[]:=by rw [a];simp
  have b:l.head?≠some 48:=fun e=>n ⟨by simp_all,by rw [a];simp⟩;have p:=yes l g f b;have hi:=ih g f (fun e=>b e.1);rw [<-a];have i:(10*Xa l+(c - 48)).toNat / 10=(Xa l).toNat:=by omega
  have j:((10*Xa l+(c - 48)).toNat % 10:Nat)=(c - 48).toNat:=by omega
  rw [Yl (by omega),i,j,hi];congr 2;omega
def yhw:∀(l:List Int),(∀c∈l,48<=c/\c<=57)->Xa l<10 ^ l.length:=by
 refine zd1 ?_ ?_
 ·intro _;show (0:Int)<1;omega
 intro l c ih h;rw [VU,Qt,EF,Int.pow_succ];have h1:=ih fun d a=>h d (Wz _ a);have b:=h c (WZ _ (Eu c));omega
theorem zmb (s:List Int):zax s=match zT s 19 with
  | some v=>if 0<=v/\v<=999999 then some v else none
  | none=>none:=by
 by_cases h:(1<=s.length/\s.length<=6)/\¬(s.head?=some 48/\1<s.length)/\(∀c∈s,48<=c/\c<=57)
 ·obtain⟨⟨h1,p⟩,i,a⟩:=id h;have d:s≠[]:=fun e=>by simp_all
  have h0:=zqd s a;have k:=yhw s a;have q:Xa s<=999999:=by have u:s.length=1\/s.length=2\/s.length=3\/s.length=4\/s.length=5\/s.length=6:=(by omega);grind
  have hs:=zwb s a d i;have m:zo (Xa s)=s:=by unfold zo;rw [Qe (by omega),show (Xa s).natAbs=(Xa s).toNat by omega,hs]
  have hn:zT s 19=some (Xa s):=by have:=zsd (n:=Xa s) (most:=19) (by omega) (by omega) (by rw [show (Xa s).natAbs=(Xa s).toNat by omega,hs];omega);simp_all
  grind [zax]
 have e:zax s=none:=by grind [zax]
 rw [e];cases hn:zT s 19 with
 | none=>rfl
 | some v =>
  show none=if _ then _ else _
  by_cases g:0<=v/\v<=999999
  ·exfalso;apply h;have hs:=(zbk hn).1;have a:zo v=Zl v.natAbs:=(by grind [zo]);rw [a] at hs;have f:=zc5 6 v.natAbs (by omega) (by omega);have o:=zaj v.natAbs;refine⟨⟨?_,by rw [hs];exact f⟩,?_,by rw [hs];exact YB _⟩
   ·grind
   rintro ⟨r,hb⟩;by_cases b:v.natAbs=0
   ·grind [Z2]
   obtain⟨c,l,t,j⟩:=zwa b;simp_all
  rw [Qe g]
section
variable {s ns x tx l p:List Int} {n:Int} {a:List (List Int)} {t:Tg}
theorem zh5:∀(a b:List (List Int)),xB (a++b)=match xB a with
  | none=>none
  | some x=>(xB b).map (x++·)
 | [],b=>by show xB b=(xB b).map ([]++·);cases xB b <;> rfl
 | s :: a,b=>by
   show (match zax s with
   | none=>none
   | some n=>match xB (a++b) with
     | none=>none
     | some ns=>some (n :: ns))=match (match zax s with
   | none=>none
   | some n=>match xB a with
     | none=>none
     | some ns=>some (n :: ns)) with
   | none=>none
   | some x=>(xB b).map (x++·)
   rw [zh5 a b]
   cases zax s with
   | none=>rfl
   | some n =>
     cases xB a with
     | none=>rfl
     | some x=>cases xB b <;> rfl
def zkd {l:List (List Int)} (h:xB (s :: l)=some ns):∃n m,zax s=some n/\xB l=some m/\ns=n :: m:=by grind [xB]
def zct:∀{l:List (List Int)} {ns:List Int},xB l=some ns->ns.length=l.length
 | [],ns,h=>by rw [<-QD h];rfl
 | s :: l,ns,h=>by
   obtain⟨n,m,-,a,rfl⟩:=zkd h
   rw [Q5,Q5,zct a]
def zxn (h:zax s=some n):0<=n/\n<=999999:=by grind [zmb]
def zh6:∀{l:List (List Int)} {ns:List Int},xB l=some ns->∀i,i<ns.length->0<=nth ns i/\nth ns i<=999999
 | [],ns,h,i,hi=>by rw [<-QD h] at hi;cases hi
 | s :: l,ns,h,i,hi=>by
   obtain⟨n,m,h1,a,rfl⟩:=zkd h
   cases i with
   | zero=>exact zxn h1
   | succ i=>exact zh6 a i (by simpa using hi)
def zxo (h:xB a=some x) (hn:zax s=some n):xB (a++[s])=some (x++[n]):=by grind [xB,zh5]
def ycm {b:List (List Int)} (h:xB a=some x) (hn:zax s=none):xB (a++s :: b)=none:=by grind [xB,zh5]
theorem zdl (x:Int) (q:List Int):∀a:List (List Int),a≠[]->yD x (a++[q])=yD x a++x :: q
 | [],h=>absurd rfl h
 | [p],_=>rfl
 | p :: r :: a,_=>by
   show p++x :: yD x (r :: a++[q])=(p++x :: yD x (r :: a))++x :: q
   rw [zdl x q (r :: a) (by simp),Wr];rfl
theorem zjq (ws:List (List Int)) (q:List Int) (h:yD 32 ws=[]->ws=[]):yD 32 (ws++[q])=(if yD 32 ws=[] then yD 32 ws else yD 32 ws++[32])++q:=by grind [yD,zdl]
theorem zgq {ws:List (List Int)} {q:List Int} (a:q≠[]):yD 32 (ws++[q])=[]->ws++[q]=[]:=by
 intro h;cases ws with
 | nil=>exact absurd h a
 | cons p b =>rw [zdl 32 q (p :: b) (by simp)] at h;simp at h
theorem zdk:∀(zs:List Int) (ws:List (List Int)),(yD 32 ws=[]->ws=[])->yD 32 (ws++zs.map zo)=yV (yD 32 ws) zs
 | [],ws,_=>by rw [E1,WJ];rfl
 | n :: zs,ws,h=>by
   have a:=zdk zs (ws++[zo n]) (zgq (zjd n))
   rw [Wr,qX] at a
   rw [Ef,a,zjq ws _ h];rfl
theorem VG (zs:List Int):yD 32 (zs.map zo)=yV [] zs:=zdk zs [] fun _=>rfl
def ybm (n:Int):yD 32 [zey,zo n]=yV zey [n]:=rfl
theorem yia (s:List Int):∀a b:List Int,yV s (a++b)=yV (yV s a) b:=by intro a;induction a generalizing s <;> grind [yV]
def Ym (K:Kn) (k:Nat):List Int:=[K.pc,K.st]++(K.ops.take k).flatMap fun o=>[o.sl,o.sg,o.d]
def zww (K:Kn):yD 32 ((Ym K K.ops.length).map zo)=zug K:=by
 rw [VG];unfold Ym zug;rw [Wd,yia];generalize yV [] [K.pc,K.st]=s;generalize K.ops=l;induction l generalizing s with
 | nil=>rfl
 | cons o l ih =>rw [List.flatMap_cons,yia,qj];exact ih _
def zd4 (L:Lp) (t:Tg) (K:Kn) (n:Int):List (List Int):=(XG L n).map zo++([[58]]++(zf3 L t K n).map zo)
theorem zgr (L:Lp) (t:Tg) (K:Kn) (n:Int):yD 32 (zd4 L t K n)=ze7 L t K n:=by
 have h:yD 32 ((XG L n).map zo)=[]->(XG L n).map zo=[]:=by
  generalize XG L n=zs;intro h;by_cases e:zs=[]
  ·rw [e];rfl
  rw [<-List.dropLast_concat_getLast e,QV] at h ⊢;grind [zgq,zjd]
 grind [zd4,ze7,zdk,zgq,zjq,VG]
def zjy (h:l.take 2≠[61,32]) (hn:xB (zx 32 l).tail=none):Z7 t tx l ZV t tx:=by
 unfold Z7;rw [Qe h,Qe,hn]
 ·grind
 rintro rfl;cases hn
def yc4 (h:l.take 2=[61,32]):Z7 t tx l (yV okW [((tx++l.drop 2++[10]).length:Int)]) t (tx++l.drop 2++[10]):=by grind [Z7]
theorem VQ {x:Int} (h:zx x l=[p]):p=l:=by have:=ZH x l;rw [h] at this;exact this
def zjz {c:Tg} {b a:List Int} {qs:List (List Int)} (h:l.take 2≠[61,32]) (hs:zx 32 l=p :: qs) (hn:xB qs=some ns)
  (hr:if p=yK/\ns.length=0 then a=okW/\c=t/\b=[]
   else if p=zW/\ns.length=7 then (if zS (tgD ns)=true then a=okW/\c=tgD ns/\b=tx else a=ZV/\c=t/\b=tx)
   else if (p=yz\/p=yx\/p=yy)/\ns.length=0 then UC t tx p 0 a/\c=t/\b=tx
   else if p=yM/\ns.length=1 then UC t tx yM (nth ns 0) a/\c=t/\b=tx
   else a=ZV/\c=t/\b=tx):Z7 t tx l a c b:=by
 have g:=zct hn
 have h0:ns.length=0->p=l:=fun e=>VQ (x:=32) (by rw [hs,Wi.1 (g.symm.trans e)])
 have f:∀m,zx 32 m=[m]->(l=m↔p=m/\ns.length=0):=fun m hm=>⟨fun e=>by
  rw [e,hm] at hs
  injection hs with h1 d
  subst d
  exact⟨h1.symm,by rw [g];rfl⟩,fun e=>(h0 e.2).symm.trans e.1⟩
 unfold Z7
 rw [Qe h,hs]
 show (if l=yK then _ else match xB qs with
  | none=>_
  | some ns=>if p=zW/\ns.length=7 then _ else if l=yz\/l=yx\/l=yy then _ else if p=yM/\ns.length=1 then _ else _)
 rw [hn]
 show (if l=yK then _ else if p=zW/\ns.length=7 then _ else if l=yz\/l=yx\/l=yy then _ else if p=yM/\ns.length=1 then _ else _)
 have i:(l=yz\/l=yx\/l=yy)↔(p=yz\/p=yx\/p=yy)/\ns.length=0:=by
  rw [f yz rfl,f yx rfl,f yy rfl]
  constructor
  ·rintro (h | h | h)
   ·exact⟨.inl h.1,h.2⟩
   ·exact⟨.inr (.inl h.1),h.2⟩
   ·exact⟨.inr (.inr h.1),h.2⟩
  ·rintro ⟨h | h | h,d⟩
   ·exact .inl ⟨h,d⟩
   ·exact .inr (.inl ⟨h,d⟩)
   ·exact .inr (.inr ⟨h,d⟩)
 simp only [f yK rfl,i]
 by_cases e:(p=yz\/p=yx\/p=yy)/\ns.length=0
 ·rw [h0 e.2] at hr ⊢
  exact hr
 ·rw [Qe e] at hr ⊢
  exact hr
def zjx (h:l.take 2≠[61,32]) (hm:9<(zx 32 l).length):Z7 t tx l ZV t tx:=by
 cases hs:zx 32 l with
 | nil=>exact absurd hs (xQ 32 l)
 | cons p qs =>
  rw [hs,Q5] at hm;cases hn:xB qs with
  | none=>exact zjy h (by rw [hs];exact hn)
  | some ns =>have a:=zct hn;refine zjz h hs hn ?_;rw [Qe (by omega),Qe (by omega),Qe (by omega),Qe (by omega)];exact⟨rfl,rfl,rfl⟩
theorem yej:Vh (zx 10 [])=[]:=rfl
theorem zzf (h:zx 10 s=[p]) (hs:s≠[]):Vh (zx 10 s)=s :: Vh (zx 10 []):=by grind [zx,Vh,VQ]
end
theorem ydz (s:List Int):∀(a b:List Int),yV s (a++b)=yV (yV s a) b:=by
 intro a;induction a generalizing s with
 | nil=>intro b;rfl
 | cons n a ih=>intro b;exact ih _ b
theorem ye1 (s:List Int) (n:Int):yV s [n]=(if s=[] then s else s++[32])++zo n:=rfl
theorem zyr (s zs:List Int) (k:Nat) (a:k<zs.length):yV s (zs.take (k+1))=(if yV s (zs.take k)=[] then yV s (zs.take k) else yV s (zs.take k)++[32])++zo (nth zs k):=by
 have e:zs.take (k+1)=zs.take k++[nth zs k]:=by rw [Wm,Qh a];grind [nth]
 rw [e,ydz,ye1]
theorem zdc {n:Int} (h0:-9223372036854775808<=n) (h1:n<=9223372036854775807):(zo n).length<=20:=by
 grind [yfm,zo]
def ye0 {s zs:List Int} (a:∀i,i<zs.length->-9223372036854775808<=nth zs i/\nth zs i<=9223372036854775807):∀k,k<=zs.length->(yV s (zs.take k)).length<=s.length+21*k:=by
 intro k;induction k with
 | zero=>intro _;simp [yV]
 | succ k ih =>
  grind [zdc,zyr]
section
variable {L:Lp} {K:Kn} {n:Int}
theorem zzt (L:Lp) (i:Nat) (h:i<L.b.length):zB (ZM L) i=[0,0,0]:=by grind [zB,ZM]
theorem ze9 (L:Lp):(ZM L).length=L.b.length:=by unfold ZM;simp
theorem zav (L:Lp):(ZQ L).length=L.l.length:=by unfold ZQ;simp
theorem zzv (L:Lp) (i:Nat) (h:i<L.l.length):zB (ZQ L) i=List.replicate (2 ^ (nth L.l i).toNat) 0:=by grind [zB,ZQ,nth]
theorem zle (hm:zQ L=true):xP L (ZM L) (ZQ L)=true:=by grind [xP,ze9,zav,yk,zzt,zzv]
theorem zql {l:List Int} (h:∀x∈l,x=0) (j:Nat):I64 (nth l j):=by
 have:nth l j=0:=by
  unfold nth;by_cases a:j<l.length
  ·rw [Qw,Qh a];exact h _ (QW a)
  simp_all
 grind [I64]
theorem zkr {l:List (List Int)} (i:Nat):zB l i∈l\/zB l i=[]:=by grind [zB]
def yey (L:Lp):Y6 (ZM L):=by grind [Y6,ZM,zql,zkr]
def yez (L:Lp):Y6 (ZQ L):=by grind [Y6,ZQ,zql,zkr]
theorem zh8 (L:Lp) (n:Int):(XG L n).length=L.o.length:=by grind [XG,Zg]
theorem zh7 (L:Lp) (t:Tg) (K:Kn) (n:Int):(zf3 L t K n).length<=L.o.length:=by grind [zf3,zdo]
theorem ze2 {s zs:List Int} (a:∀i,i<zs.length->-9223372036854775808<=nth zs i/\nth zs i<=9223372036854775807):(yV s zs).length<=s.length+21*zs.length:=by have h:=ye0 (s:=s) a zs.length (Qc _);rwa [Wd] at h
def zzi {t:Tg} (hm:zQ L=true) (hs:∀i,i<(XG L n).length->-9223372036854775808<=nth (XG L n) i/\nth (XG L n) i<=9223372036854775807) (a:∀i,i<(zf3 L t K n).length->-9223372036854775808<=nth (zf3 L t K n) i/\nth (zf3 L t K n) i<=9223372036854775807):(yV [] (XG L n)).length<=336/\(ze7 L t K n).length<=10000:=by grind [zQ,ze7,ze2,zy,zh8,zh7]
def zzh (hn:n<=200) (h0:0<=n) (a:0<=K.pc) (b:K.pc<=96) (h:K.st*K.pc<=1200):(n+K.st)*K.pc<=30000:=by have h1:n*K.pc<=200*96:=Wy hn b a (by omega);have c:(n+K.st)*K.pc=n*K.pc+K.st*K.pc:=qz _ _ _;omega
end
end Go.Proofs.YtjlfcbccpcigeacGreatDoor
