import Derived.RangeFuncNested
import Derived.RangeFuncBound
import Derived.RangeFuncLeaves
import Derived.OrdersIn
import Derived.Test.YtjoapiafpahihabGreatBase
namespace Go.Proofs.YtjoapiafpahihabGreat
open Go.RowKit Go.Joins
set_option linter.unusedVariables false
variable {A B w:World} {l n m k:Nat} {o:Obj} {P:Program} {Q:Exit->Act->World->Prop} {a:Act} {f:FuncId} {args:Array Value} {R R':Ending->World->Prop} {ops:Array Oper}
structure Ck (A B:World):Prop where
 size:A.heap.size<=B.heap.size
 cell:∀p v,A.cell? p=some v->B.cell? p=some v
theorem Ck.trans {C:World} (h:Ck A B) (k:Ck B C):Ck A C:=⟨Nat.le_trans h.size k.size,fun p v e=>k.cell p v (h.cell p v e)⟩
theorem Ck.gE (h:Bw A B):Ck A B:=⟨h.size,fun p v e=>by
 have hp:p.block<A.heap.size:=by
  cases hb:A.heap[p.block]? with
  | none=>simp [World.cell?,hb] at e
  | some o=>exact (Array.getElem?_eq_some_iff.1 hb).1
 exact (h.cell hp).trans e⟩
theorem Ck.put (o':Obj) (hl:A.heap[l]?=some o) (ho:o.isCells=false):Ck A (A.putObj l o') :=
 ⟨by simp,fun p v e=>cell_kept e (grownBy_putObj' A l o') (fun r e=>by cases e;exact⟨o,hl,ho⟩)⟩
theorem zas (o':Obj) (hl:A.heap[l]?=some o) (hn:n<=l):Below n A (A.putObj l o') :=
 (Below.refl n A).grown (grownBy_putObj' A l o') (by have:=(Array.getElem?_eq_some_iff.1 hl).1;omega) (fun k e=>by cases e;omega)
def ybr (B:Nat) (Fin:Prop) (Res:World->Prop) (la:Bool) (W:World):Exit->Act->World->Prop
 | .normal,_,W'=>Bw W W'/\(la=true->Fin)
 | .ret,_,W'=>W.heap.size<=W'.heap.size/\(∀k,B<=k->k<W.heap.size->W'.heap[k]?=W.heap[k]?)/\Res W'
 | _,_,_=>False
def znw {α:Type} (P:Program) (gf:Nat) (lb:Array Value) (enc:α->Value) (Px:Bool->α->World->Prop) (w:World):Prop :=
 ∀ (n l:Nat) (J0 J1 Jx:World->Prop) (W:World),(∀A,J0 A->Bw w A)->(∀A B,J0 A->Bw A B->J0 B) ->
   (∀k la x A,J0 A->Px la x A->YieldAt Fence.wide k P l #[enc x] A fun e B=>(e=.returned (.bool true)/\Ck A B/\(la=false->J0 B)/\(la=true->J1 B))\/(e=.returned (.bool false)/\Jx B))->J0 W ->
   CallsIn Fence.wide n P gf (#[.func (.yield l) #[] #[]]++lb) W fun e B=>(∃v,e=.returned v)/\(J1 B\/Jx B)
theorem zmx {α:Type} {g:Operand} {ps:Array Tmp} {assign body:Code} {gf:Nat} {lb:Array Value}
  (hg:a.eval g=.func (.func gf) #[] lb) (eg:∀args w,(callFunc gf args).run P w=.ok (.enter gf args) w)
  {enc:α->Value} {Px:Bool->α->World->Prop} (hit:znw P gf lb enc Px w) (hps:ps.size=1)
  (hPx:∀la x A B,Px la x A->Ck A B->Px la x B)
  (Fin:Prop) (Res:World->Prop) (hRes:∀A l o o',Res A->w.heap.size<=l->A.heap[l]?=some o->o.isCells=false->Res (A.putObj l o'))
  (ax:α->Nat->Act) (bx:α->Obj)
  (hassign:∀(l k:Nat) (x:α) (W:World) (K:Act->World->Prop),K (ax x W.heap.size) (W.alloc (bx x)) ->
   assign.wpIn (Fence.wide.inRound l) k P (Exit.then K (fun _ _ _=>False)) { tmps:=(ps.zip #[enc x]).foldl (fun t (p,v)=>t.setIfInBounds p v) a.tmps,defers:=[] } W)
  (gQ:∀(l k B:Nat) (la:Bool) (x:α) (W:World),Bw w W->Px la x W->w.heap.size<=B->W.heap[B]?=some (bx x)->body.wpIn (Fence.wide.inRound l) k P (ybr w.heap.size Fin Res la W) (ax x B) W)
  (hdone:∀(D:Nat) (W:World),w.heap.size<=D->Fin->Bw w W->W.heap[D]?=some (.deferred (some []))->Q .normal { a with defers:={ target:=.collected D,args:=#[] } :: a.defers } W)
  (hstop:∀(D:Nat) (W:World),w.heap.size<=D->Res W->W.heap[D]?=some (.deferred (some []))->Code.ret.wpIn Fence.wide n P Q { a with defers:={ target:=.collected D,args:=#[] } :: a.defers } W) :
  (Code.rangeFunc g ps assign body).wpIn Fence.wide n P Q a w:=by
 refine wpIn_rangeFunc ?_
 intro fn hfn
 let rc:LoopState->Option Code->Loop:=fun st pe=>{ state:=st,pending:=pe,fn,tmps:=a.tmps,params:=ps,assign,body,defers:=w.heap.size }
 obtain⟨W1,hW1⟩:∃W1,(w.alloc (.deferred (some []))).alloc (.loop (rc .ready none))=W1:=⟨_,rfl⟩
 have hb1:Bw w W1:=by rw [<-hW1];exact ((Below.refl _ w).alloc (Nat.le_refl _) _).alloc (by simp) _
 have hl1:W1.heap[w.heap.size+1]?=some (.loop (rc .ready none)):=by
  rw [<-hW1];have h:=World.alloc_heap_new (w.alloc (.deferred (some []))) (.loop (rc .ready none));rwa [World.size_alloc] at h
 have hd1:W1.heap[w.heap.size]?=some (.deferred (some [])):=by
  rw [<-hW1];exact (Below.heap_alloc _ _ _ (by simp)).trans (World.alloc_heap_new w _)
 refine⟨w.heap.size+1,[{ target:=.collected w.heap.size,args:=#[] }],W1,{ target:=.fn (.func gf) lb,args:=#[.func (.yield (w.heap.size+1)) #[] #[]] },W1,gf,#[.func (.yield (w.heap.size+1)) #[] #[]]++lb,W1,by rw [<-hW1];exact run_enterLoop_outer _ _ _ _ _,?_,fun _ _=>trivial,?_,fun h=>by simp [Fence.wide] at h,?_⟩
 ·simp only [resolve,hg]
  simp [go_sem]
 ·simp [invoke,go_sem,eg]
 have low:∀{A B:World} {k:Nat} {o:Obj},A.heap[k]?=some o->Bw A B->B.heap[k]?=some o:=fun h hb=>(hb.block _ (Array.getElem?_eq_some_iff.1 h).1).trans h
 refine (hit (n - 1) (w.heap.size+1)
  (fun A=>Bw w A/\A.heap[w.heap.size+1]?=some (.loop (rc .ready none))/\A.heap[w.heap.size]?=some (.deferred (some [])))
  (fun A=>Fin/\Bw w A/\A.heap[w.heap.size+1]?=some (.loop (rc .ready none))/\A.heap[w.heap.size]?=some (.deferred (some [])))
  (fun A=>Res A/\A.heap[w.heap.size+1]?=some (.loop (rc .done (some .ret)))/\A.heap[w.heap.size]?=some (.deferred (some [])))
  W1 (fun A h=>h.1) (fun A B h hb=>⟨h.1.trans (hb.mono h.1.size),low h.2.1 hb,low h.2.2 hb⟩) ?_ ⟨hb1,hl1,hd1⟩).mono ?_
 ·rintro k la x A ⟨hA,hl,hd⟩ hx
  have hlt:w.heap.size+1<A.heap.size:=(Array.getElem?_eq_some_iff.1 hl).1
  refine⟨fn,_,assign,body,run_yield (P:=P) (args:=#[enc x]) hl (by simpa using hps.symm),roundIn_of_wpIn hfn (hassign _ k x A _ ?_)⟩
  have hba:Bw A (A.alloc (bx x)):=(Below.refl _ A).alloc (Nat.le_refl _) _
  have hla:=low hl hba
  have hda:=low hd hba
  refine⟨_,run_beginRound hla rfl,?_⟩
  obtain⟨W2,hW2⟩:∃W2,(A.alloc (bx x)).putObj (w.heap.size+1) (.loop { rc .ready none with state:=.busy })=W2:=⟨_,rfl⟩
  have hb2:Bw w W2:=by rw [<-hW2];exact (hA.trans (hba.mono hA.size)).trans (belowK_b (w:=w) (Nat.le_refl _) _ _ _ _ (by omega) hla rfl rfl)
  have hc2:Ck A W2:=by rw [<-hW2];exact (Ck.gE hba).trans (Ck.put _ hla rfl)
  have hl2:W2.heap[w.heap.size+1]?=some (.loop { rc .ready none with state:=.busy }):=by rw [<-hW2];exact World.putObj_heap_same (by simp;omega)
  have hd2:W2.heap[w.heap.size]?=some (.deferred (some [])):=by rw [<-hW2];exact (World.putObj_heap_other (by omega)).trans hda
  have hx2:W2.heap[A.heap.size]?=some (bx x):=by rw [<-hW2];exact (World.putObj_heap_other (by omega)).trans (World.alloc_heap_new _ _)
  have hs2:=(Array.getElem?_eq_some_iff.1 hl2).1
  have e2:(A.alloc (bx x)).putObj (w.heap.size+1) (.loop { rc .ready none with state:=.busy })=W2:=hW2
  show body.wpIn _ _ _ _ _ ((A.alloc (bx x)).putObj (w.heap.size+1) (.loop { rc .ready none with state:=.busy }))
  rw [e2]
  refine wpIn_mono (gQ _ k A.heap.size la x W2 hb2 (hPx _ _ _ _ hx hc2) hA.size hx2) ?_
  rintro e a3 W3 hp
  cases e with
  | normal =>
    obtain⟨hb3,hf⟩:=hp
    have hl3:=low hl2 hb3
    have hd3:=low hd2 hb3
    have hs3:=(Array.getElem?_eq_some_iff.1 hl3).1
    have hb4:Bw w (W3.putObj (w.heap.size+1) (.loop (rc .ready none))):=(hb2.trans (hb3.mono hb2.size)).trans (belowK_b (w:=w) (Nat.le_refl _) _ _ _ _ (by omega) hl3 rfl rfl)
    have hj:Bw w (W3.putObj (w.heap.size+1) (.loop (rc .ready none)))/\(W3.putObj (w.heap.size+1) (.loop (rc .ready none))).heap[w.heap.size+1]?=some (.loop (rc .ready none))/\(W3.putObj (w.heap.size+1) (.loop (rc .ready none))).heap[w.heap.size]?=some (.deferred (some [])) :=
     ⟨hb4,World.putObj_heap_same hs3,(World.putObj_heap_other (by omega)).trans hd3⟩
    exact⟨_,_,run_endRound (P:=P) none hl3,.inl ⟨rfl,hc2.trans ((Ck.gE hb3).trans (Ck.put _ hl3 rfl)),fun _=>hj,fun h=>⟨hf h,hj⟩⟩⟩
  | ret =>
    obtain⟨hs3,hk3,hr3⟩:=hp
    have hl3:=(hk3 _ (by omega) hs2).trans hl2
    have hd3:=(hk3 _ (Nat.le_refl _) (by omega)).trans hd2
    exact⟨_,_,run_endRound (P:=P) (some .ret) hl3,.inr ⟨rfl,hRes _ _ _ _ hr3 (by omega) hl3 rfl,World.putObj_heap_same (by omega),(World.putObj_heap_other (by omega)).trans hd3⟩⟩
  | exit id=>exact hp.elim
  | goto t=>exact hp.elim
  | panic ch=>exact hp.elim
  | outgrown=>exact hp.elim
 ·rintro e W2 ⟨⟨v,rfl⟩,(⟨hf,hb,hl,hd⟩ | ⟨hr,hl,hd⟩)⟩
  ·exact⟨none,_,run_endLoop (P:=P) hl (by simp [rc]),hdone _ _ (Nat.le_refl _) hf (hb.trans (belowK_b (w:=w) (Nat.le_refl _) _ _ _ _ (by omega) hl rfl rfl)) ((World.putObj_heap_other (by omega)).trans hd)⟩
  ·exact⟨some .ret,_,run_endLoop (P:=P) hl (by simp [rc]),hstop _ _ (Nat.le_refl _) (hRes _ _ _ _ hr (by omega) hl rfl) ((World.putObj_heap_other (by omega)).trans hd)⟩
theorem XQ (h:Calls P f args w R) (hR:∀e w',R e w'->R' e w'):Fence.wide.fn f/\(Fence.wide.depth.isSome=true->1<=n)/\CallsIn Fence.wide m P f args w R' :=
 ⟨trivial,fun h=>by simp [Fence.wide] at h,(callsIn_wide.2 h).mono hR⟩
theorem zn3 (h:Calls P f args w R) (hR:∀e w',R e w'->R' e w'):(Fence.wide.inRound l).fn f/\((Fence.wide.inRound l).depth.isSome=true->1<=n)/\CallsIn (Fence.wide.inRound l) m P f args w R' :=
 ⟨trivial,fun h=>by simp [Fence.wide,Fence.inRound] at h,CallsIn.inRound l ((callsIn_wide.2 h).mono hR)⟩
def UN (Q:Exit->Act->World->Prop):Exit->Act->World->Prop
 | .normal,a,w=>Q .normal a w
 | _,_,_=>False
theorem UN.imp:∀(e:Exit) (a:Act) (w:World),UN Q e a w->Q e a w:=fun e a w h=>by
 cases e <;> first | exact h | exact (h:False).elim
theorem UN.normal (h:Q .normal a w):UN Q .normal a w:=h
def zof (ops:Array Oper):Bool:=ops.all fun o=>match o.op with | .defer _=>false | _=>true
theorem zmj {o:Oper} {K:Act->World->Prop} (hd:(match o.op with | .defer _=>false | _=>true)=true) (h:o.wp P a w K Q):o.wpIn (Fence.wide.inRound l) k P a w K Q:=by
 refine⟨fun _ _=>trivial,?_⟩
 have e:o.semAt (Fence.wide.inRound l).round a.eval=execOp a.eval o:=by
  unfold Oper.semAt
  split
  ·rename_i hc;rw [hc] at hd;cases hd
  ·rfl
 have hn:(Fence.wide.inRound l).depth.isSome=true->1<=k:=fun h=>by simp [Fence.wide,Fence.inRound] at h
 rw [e]
 unfold Oper.wp at h
 revert h
 cases hr:(execOp a.eval o).run P w with
 | ok nx w' =>
   cases nx <;> intro h
   case enter f args=>exact⟨hn,CallsIn.inRound l (callsIn_wide.2 h)⟩
   case row r args=>exact⟨hn,fun c cs _=>let ⟨v,w',r,s⟩:=h c cs;⟨v,w',r,stepsIn_wide.2 s⟩⟩
   all_goals first | exact h | exact (h:False).elim
 | halt hh w'=>intro h;cases hh <;> first | exact h | exact (h:False).elim
theorem VV {md:Region.Mode} (hd:zof ops=true):∀(fuel:Nat) (gV:Array Bool) (a:Act) (w:World),wpAny P md ops (UN Q) fuel gV a w->wpAnyIn (Fence.wide.inRound l) k P md ops (UN Q) fuel gV a w
 | 0,_,_,_,h=>h
 | fuel+1,gV,a,w,h=>⟨h.1,fun i hi=>by
   have h2:=h.2 i hi
   unfold wpOp at h2
   unfold wpOpIn
   cases ho:ops[i]? with
   | none=>rw [ho] at h2;exact VV hd fuel _ a w h2
   | some o =>
     rw [ho] at h2
     have hdo:(match o.op with | .defer _=>false | _=>true)=true:=Array.all_eq_true'.1 hd o (Array.mem_of_getElem? ho)
     by_cases hw:Region.wanted o (yielded ops a.tmps)=true
     ·simp only [hw,if_true] at h2 ⊢
      rcases h2 with h2 | ⟨-,-,-,⟨⟩⟩
      exact zmj hdo (Oper.wp_mono (fun a' w' h'=>VV hd fuel _ a' w' h') h2)
     ·simp only [hw,if_false,Bool.false_eq_true] at h2 ⊢
      exact⟨fun _ _=>trivial,VV hd fuel _ _ w h2⟩⟩
theorem zhp {id:Nat} (z:Nat) (S:World->Prop) (hm:P.follows .mixedOrders=true) (hd:zof ops=true) (hS:S w.drew) (h:S w.drew->YK P .any ops (UN Q) S z ops.size (Array.replicate ops.size false) a w.drew):(Code.region id ops true).wpIn (Fence.wide.inRound l) k P Q a w :=
 wpIn_mono (wpIn_region_any hm (VV hd _ _ _ _ (XT _ _ _ _ (h hS)))) UN.imp
end Go.Proofs.YtjoapiafpahihabGreat
