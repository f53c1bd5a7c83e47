import Derived.Test.YtjoapiafpahihabGreatBase
namespace Go.Proofs.YtjoapiafpahihabGreat
open Go.RowKit Go.Joins
set_option linter.unusedVariables false
variable {P:Program} {ops:Array Oper} {Q:Exit->Act->World->Prop} {md:Region.Mode} {S:World->Prop}
def ZH (ops:Array Oper) (i:Nat):Option Tmp:=(ops[i]?).bind (·.dst)
def xJ (ops:Array Oper) (val:Nat->Value) (a0:Act) (l:Nat->Bool):Nat->Act
 | 0=>a0
 | k+1=>if l k=true then (xJ ops val a0 l k).put (ZH ops k) (val k) else xJ ops val a0 l k
def zmf (ops:Array Oper) (j k:Nat):Bool:=match ops[j]?,ZH ops k with
 | some o,some d=>(o.looksAt ops).contains d || o.dst == some d
 | _,_=>false
def zml (md:Region.Mode) (ops:Array Oper) (j k:Nat):Bool:=j == k || !(zmf ops j k) || (decide (k<j) && XP md ops j k) || (decide (j<k) && XP md ops k j)
def zzc (md:Region.Mode) (ops:Array Oper) (j:Nat):Bool:=match ops[j]? with
 | some o=>o.after.all fun e=>!Region.binds md e || decide (e.on<j)
 | none=>true
def ZV (md:Region.Mode) (ops:Array Oper):Bool:=(List.range ops.size).all fun j=>zzc md ops j && (List.range ops.size).all fun k=>zml md ops j k
theorem zrr (a:Act) (d:Option Tmp) (v:Value):(a.put d v).tmps.size=a.tmps.size:=by cases d <;> simp [Act.put]
theorem UC {a:Act} {d:Option Tmp} {x:Tmp} (h:d≠some x) (v:Value):(a.put d v).tmps[x]?=a.tmps[x]?:=by
 cases d with
 | none=>rfl
 | some e =>
   have hne:e≠x:=fun he=>h (by rw [he])
   simp [Act.put,Array.getElem?_setIfInBounds_ne hne]
theorem zrq {a b:Act} (x:Tmp) (v:Value) (h:a.tmps.size=b.tmps.size):(a.put (some x) v).tmps[x]?=(b.put (some x) v).tmps[x]?:=by
 simp only [Act.put]
 by_cases hx:x<a.tmps.size
 ·rw [Array.getElem?_setIfInBounds_self_of_lt hx,Array.getElem?_setIfInBounds_self_of_lt (h ▸ hx)]
 ·rw [Array.getElem?_eq_none (by rw [Array.size_setIfInBounds];exact Nat.le_of_not_lt hx),Array.getElem?_eq_none (by rw [Array.size_setIfInBounds,<-h];exact Nat.le_of_not_lt hx)]
theorem VU (val:Nat->Value) (a0:Act) (l:Nat->Bool):∀k,(xJ ops val a0 l k).tmps.size=a0.tmps.size:=by
 intro k
 induction k with
 | zero=>rfl
 | succ k ih =>
   unfold xJ
   split
   ·rw [zrr];exact ih
   ·exact ih
theorem zrd {j k:Nat} (h:ZV md ops=true) (hj:j<ops.size) (hk:k<ops.size):zml md ops j k=true:=by
 unfold ZV at h
 have h1:=List.all_eq_true.1 h j (List.mem_range.2 hj)
 rw [Bool.and_eq_true] at h1
 exact List.all_eq_true.1 h1.2 k (List.mem_range.2 hk)
theorem zxp {j:Nat} {o:Oper} (h:ZV md ops=true) (ho:ops[j]?=some o):∀e∈o.after,Region.binds md e=true->e.on<j:=by
 have hj:j<ops.size:=(Array.getElem?_eq_some_iff.1 ho).1
 unfold ZV at h
 have h1:=List.all_eq_true.1 h j (List.mem_range.2 hj)
 rw [Bool.and_eq_true] at h1
 have h2:=h1.1
 unfold zzc at h2
 rw [ho] at h2
 intro e he hb
 have h3:=Array.all_eq_true_iff_forall_mem.1 h2 e he
 rw [hb] at h3
 simpa using h3
def zc0 (md:Region.Mode) (ops:Array Oper) (l:Nat->Bool):Prop:=∀j,l j=true->∀o,ops[j]?=some o->∀e∈o.after,Region.binds md e=true->l e.on=true
theorem zqz {j k:Nat} {o:Oper} {d:Tmp} (ho:ops[j]?=some o) (hk:ZH ops k=some d) (hd:d∈o.looksAt ops\/o.dst=some d):zmf ops j k=true:=by
 unfold zmf
 rw [ho,hk]
 rcases hd with h | h
 ·simp [h]
 ·simp [h]
theorem zo3 {k:Nat} {d:Tmp} (h:ZH ops k=some d):k<ops.size:=by
 unfold ZH at h
 cases ho:ops[k]? with
 | none=>rw [ho] at h;cases h
 | some o=>exact (Array.getElem?_eq_some_iff.1 ho).1
theorem zci {l:Nat->Bool} {j k:Nat} {o:Oper} {d:Tmp} (h:ZV md ops=true) (ho:ops[j]?=some o) (hk:ZH ops k=some d) (hd:d∈o.looksAt ops\/o.dst=some d) (hne:j≠k):(k<j/\XP md ops j k=true)\/(j<k/\XP md ops k j=true):=by
 have h1:=zrd h (Array.getElem?_eq_some_iff.1 ho).1 (zo3 hk)
 unfold zml at h1
 rw [zqz ho hk hd] at h1
 simp only [Bool.or_eq_true,Bool.and_eq_true,beq_iff_eq,Bool.not_true,Bool.false_eq_true,or_false,decide_eq_true_eq] at h1
 rcases h1 with (h1 | h1) | h1
 ·exact absurd h1 hne
 ·exact .inl h1
 ·exact .inr h1
theorem zfr {l:Nat->Bool} {j k:Nat} {o:Oper} {d:Tmp} (h:ZV md ops=true) (hc:zc0 md ops l) (hj:l j=false) (ho:ops[j]?=some o) (hk:ZH ops k=some d) (hd:d∈o.looksAt ops\/o.dst=some d) (hjk:j<k):l k=false:=by
 rcases zci (l:=l) h ho hk hd (by omega) with ⟨h1,_⟩ | ⟨_,h2⟩
 ·omega
 ·cases hl:l k with
  | false=>rfl
  | true =>
    obtain⟨ok,hok⟩:∃ok,ops[k]?=some ok:=⟨_,Array.getElem?_eq_getElem (zo3 hk)⟩
    obtain⟨e,he,hb,hon⟩:=UL h2 hok
    have:=hc k hl ok hok e he hb
    rw [hon,hj] at this
    cases this
theorem zsa {val:Nat->Value} {a0:Act} {l:Nat->Bool} {j:Nat} {o:Oper} {d:Tmp} (h:ZV md ops=true) (hc:zc0 md ops l) (hj:l j=false) (ho:ops[j]?=some o) (hd:d∈o.looksAt ops\/o.dst=some d):∀k,j<=k->(xJ ops val a0 l k).tmps[d]?=(xJ ops val a0 l j).tmps[d]?:=by
 intro k
 induction k with
 | zero=>intro hk;rw [show j=0 by omega]
 | succ k ih =>
   intro hk
   by_cases e:j=k+1
   ·rw [e]
   ·have ih2:=ih (by omega)
    rw [<-ih2]
    show (if l k=true then (xJ ops val a0 l k).put (ZH ops k) (val k) else xJ ops val a0 l k).tmps[d]?=_
    by_cases hl:l k=true
    ·rw [if_pos hl]
     by_cases hdk:ZH ops k=some d
     ·by_cases ejk:j=k
      ·subst ejk;rw [hj] at hl;cases hl
      ·have:=zfr h hc hj ho hdk hd (by omega)
       rw [this] at hl;cases hl
     ·exact UC hdk _
    ·rw [if_neg hl]
theorem zsc {val:Nat->Value} {a0:Act} {l:Nat->Bool} {j:Nat} {o:Oper} {d:Tmp} (h:ZV md ops=true) (hall:∀e∈o.after,Region.binds md e=true->l e.on=true) (ho:ops[j]?=some o) (hd:d∈o.looksAt ops\/o.dst=some d):∀k,k<=j->(xJ ops val a0 l k).tmps[d]?=(xJ ops val a0 (fun _=>true) k).tmps[d]?:=by
 intro k
 induction k with
 | zero=>intro _;rfl
 | succ k ih =>
   intro hk
   have ih2:=ih (by omega)
   show (if l k=true then (xJ ops val a0 l k).put (ZH ops k) (val k) else xJ ops val a0 l k).tmps[d]?=((xJ ops val a0 (fun _=>true) k).put (ZH ops k) (val k)).tmps[d]?
   by_cases hdk:ZH ops k=some d
   ·have hl:l k=true:=by
     rcases zci (l:=l) h ho hdk hd (by omega) with ⟨_,h2⟩ | ⟨h1,_⟩
     ·obtain⟨e,he,hb,hon⟩:=UL h2 ho
      have:=hall e he hb
      rw [hon] at this;exact this
     ·omega
    rw [if_pos hl,hdk]
    exact zrq d _ (by rw [VU,VU])
   ·rw [UC hdk]
    by_cases hl:l k=true
    ·rw [if_pos hl,UC hdk];exact ih2
    ·rw [if_neg hl];exact ih2
theorem zvu {val:Nat->Value} {a0:Act} {l l':Nat->Bool} {j:Nat} {o:Oper} (h:ZV md ops=true) (hc:zc0 md ops l) (hj:l j=false) (ho:ops[j]?=some o) (hl':∀i,l' i=(i == j || l i)):∀k,(k<=j->xJ ops val a0 l' k=xJ ops val a0 l k)/\(j<k->xJ ops val a0 l' k=(xJ ops val a0 l k).put o.dst (val j)):=by
 have hdj:ZH ops j=o.dst:=by unfold ZH;rw [ho];rfl
 intro k
 induction k with
 | zero=>exact⟨fun _=>rfl,fun hk=>absurd hk (by omega)⟩
 | succ k ih =>
   have e1:xJ ops val a0 l' (k+1)=if l' k=true then (xJ ops val a0 l' k).put (ZH ops k) (val k) else xJ ops val a0 l' k:=rfl
   have e2:xJ ops val a0 l (k+1)=if l k=true then (xJ ops val a0 l k).put (ZH ops k) (val k) else xJ ops val a0 l k:=rfl
   refine⟨fun hk=>?_,fun hk=>?_⟩
   ·have hne:(k == j)=false:=by simp;omega
    rw [e1,e2,hl' k,hne,Bool.false_or,ih.1 (by omega)]
   ·by_cases ejk:k=j
    ·subst ejk
     rw [e1,e2,hl' k,hj,ih.1 (Nat.le_refl _),hdj]
     simp
    ·have hne:(k == j)=false:=by simp;exact ejk
     rw [e1,e2,hl' k,hne,Bool.false_or,ih.2 (by omega)]
     by_cases hl:l k=true
     ·rw [if_pos hl,if_pos hl]
      refine Act.put_comm _ _ _ fun d hd hdk=>?_
      have:=zfr h hc hj ho hdk (.inr hd) (by omega)
      rw [this] at hl;cases hl
     ·rw [if_neg hl,if_neg hl]
theorem zlu {o:Oper} {a b:Act} (hs:∀cs x,o.op≠.select cs x) (h:∀d∈o.looksAt ops,a.tmps[d]?=b.tmps[d]?):execOp a.eval o=execOp b.eval o/\Region.wanted o (yielded ops a.tmps)=Region.wanted o (yielded ops b.tmps):=by
 refine⟨execOp_congr o hs fun x hx=>?_,?_⟩
 ·cases x with
  | tmp t =>
    have:=h t (List.mem_append_left _ (List.mem_filterMap.2 ⟨.tmp t,by simpa using hx,rfl⟩))
    simp [Act.eval,this]
  | _=>rfl
 ·unfold Region.wanted
  cases hg:o.guard with
  | none=>rfl
  | some gw =>
    obtain⟨g,b'⟩:=gw
    have e:yielded ops a.tmps g=yielded ops b.tmps g:=by
     unfold yielded
     cases hd:(ops[g]?).bind (·.dst) with
     | none=>rfl
     | some d =>
       have:=h d (List.mem_append_right _ (by rw [hg];simp [hd]))
       simp only [Option.bind_some,this]
    simp only [e]
theorem zyi {a b:Act} (hz:a.tmps.size=b.tmps.size) {d:Option Tmp} {u v:Value} (h:a.put d u=a.put d v):b.put d u=b.put d v:=by
 cases d with
 | none=>rfl
 | some x =>
   by_cases hx:x<a.tmps.size
   ·have h1:=congrArg (fun c:Act=>c.tmps[x]?) h
    simp only [Act.put,Array.getElem?_setIfInBounds_self_of_lt hx] at h1
    rw [Option.some.inj h1]
   ·simp only [Act.put]
    have hb:b.tmps.size<=x:=by rw [<-hz];exact Nat.le_of_not_lt hx
    rw [Array.setIfInBounds_eq_of_size_le hb,Array.setIfInBounds_eq_of_size_le hb]
theorem znm {o:Oper} {a b:Act} (hz:a.tmps.size=b.tmps.size) (hdf:True) {v:Value} {r:Result Next} {K:Act->World->Prop} (hQ:∀c a w,¬Q (.panic c) a w)
  (h:o.upon P a (fun a' w'=>a'=a.put o.dst v/\S w') Q r) (hK:∀w',S w'->K (b.put o.dst v) w'):o.upon P b K Q r:=by
 have key:∀(u:Value) (w':World),(a.put o.dst u=a.put o.dst v/\S w')->K (b.put o.dst u) w':=fun u w' ⟨e,hS⟩=>by
  rw [zyi hz e];exact hK w' hS
 cases r with
 | ok n w' =>
   cases n <;> simp only [Oper.upon] at h ⊢
   case value u=>exact key u w' h
   case skip=>exact key _ w' h
   case defer d =>
    exfalso
    have h1:=congrArg Act.defers h.1
    cases hdst:o.dst <;> (rw [hdst] at h1;simp [Act.put] at h1)
   case enter f args =>
    refine Calls.mono h fun e w'' he=>?_
    cases e with
    | returned u=>exact key u w'' he
    | panicked c=>exact absurd he (hQ _ _ _)
    | outgrown=>exact he
   case row row args=>exact Rows.mono h fun u w'' he=>key u w'' he
 | halt x w' =>
   cases x <;> simp only [Oper.upon] at h ⊢
   case panic u=>exact absurd h (hQ _ _ _)
def ze5 (l:Nat->Bool):Nat->Nat
 | 0=>0
 | k+1=>ze5 l k+if l k=true then 0 else 1
theorem zyy {l l':Nat->Bool} {j:Nat} (hj:l j=false) (hl':∀i,l' i=(i == j || l i)):∀k,(k<=j->ze5 l' k=ze5 l k)/\(j<k->ze5 l k=ze5 l' k+1):=by
 intro k
 induction k with
 | zero=>exact⟨fun _=>rfl,fun h=>absurd h (by omega)⟩
 | succ k ih =>
   unfold ze5
   rw [hl' k]
   refine⟨fun hk=>?_,fun hk=>?_⟩
   ·have hne:(k == j)=false:=by simp;omega
    rw [hne,Bool.false_or,ih.1 (by omega)]
   ·by_cases e:k=j
    ·subst e
     rw [ih.1 (Nat.le_refl _),hj]
     simp
    ·have hne:(k == j)=false:=by simp;exact e
     rw [hne,Bool.false_or]
     have:=ih.2 (by omega)
     split <;> omega
theorem zwo {l:Nat->Bool}:∀k,ze5 l k=0->∀i,i<k->l i=true:=by
 intro k
 induction k with
 | zero=>intro _ i hi;omega
 | succ k ih =>
   intro h i hi
   unfold ze5 at h
   by_cases hl:l k=true
   ·by_cases e:i=k
    ·rw [e];exact hl
    ·exact ih (by omega) i (by omega)
   ·rw [if_neg hl] at h;omega
theorem zul (l:Nat->Bool):∀k,(∀i,i<k->l i=true)\/∃j,j<k/\l j=false/\∀i,i<j->l i=true:=by
 intro k
 induction k with
 | zero=>exact .inl fun i hi=>absurd hi (by omega)
 | succ k ih =>
   rcases ih with h | ⟨j,h1,h2,h3⟩
   ·cases hl:l k with
    | true =>
      refine .inl fun i hi=>?_
      by_cases e:i=k
      ·rw [e];exact hl
      ·exact h i (by omega)
    | false=>exact .inr ⟨k,by omega,hl,h⟩
   ·exact .inr ⟨j,by omega,h2,h3⟩
theorem zi5 {val:Nat->Value} {a0:Act} {l:Nat->Bool}:∀k,(∀i,i<k->l i=true)->xJ ops val a0 l k=xJ ops val a0 (fun _=>true) k:=by
 intro k
 induction k with
 | zero=>intro _;rfl
 | succ k ih =>
   intro h
   show (if l k=true then (xJ ops val a0 l k).put (ZH ops k) (val k) else xJ ops val a0 l k)=(xJ ops val a0 (fun _=>true) k).put (ZH ops k) (val k)
   rw [if_pos (h k (by omega)),ih fun i hi=>h i (by omega)]
def zeu (P:Program) (ops:Array Oper) (Q:Exit->Act->World->Prop) (S:World->Prop) (o:Oper) (a:Act) (v:Value):Prop :=
 if Region.wanted o (yielded ops a.tmps)=true then ∀w,S w->Oper.wp P o a w (fun a' w'=>a'=a.put o.dst v/\S w') Q else v=undef
theorem zay {gV:Array Bool} {j:Nat} (hj:j<gV.size):gV.getD j true=gV.getD j false:=by simp [Array.getD,hj]
theorem zsh (val:Nat->Value) (a0:Act) (h:ZV md ops=true) (hsel:Region.noSelect ops=true) (hQ:∀c a w,¬Q (.panic c) a w)
  (hstep:∀i o,ops[i]?=some o->zeu P ops Q S o (xJ ops val a0 (fun _=>true) i) (val i)) (hfin:∀w,S w->Q .normal (xJ ops val a0 (fun _=>true) ops.size) w) :
  ∀(m:Nat) (gV:Array Bool) (w:World),gV.size=ops.size->zc0 md ops (fun i=>gV.getD i false)->ze5 (fun i=>gV.getD i false) ops.size<=m->S w->wpAny P md ops Q m gV (xJ ops val a0 (fun i=>gV.getD i false) ops.size) w:=by
 have none_ready:∀(gV:Array Bool),gV.size=ops.size->Region.ready md ops gV=[]->∀i,i<ops.size->gV.getD i false=true:=fun gV hz hr=>by
  rcases zul (fun i=>gV.getD i false) ops.size with h1 | ⟨j,hj,hl,hb⟩
  ·exact h1
  ·exfalso
   have:j∈Region.ready md ops gV:=mem_ready.2 ⟨by rw [zay (by omega)];exact hl,_,Array.getElem?_eq_getElem hj,fun e he hb2=>hb _ (zxp h (Array.getElem?_eq_getElem hj) e he hb2)⟩
   rw [hr] at this;cases this
 intro m
 induction m with
 | zero =>
   intro gV w hz hc hu hS
   have hall:=zwo (l:=fun i=>gV.getD i false) ops.size (by omega)
   refine⟨?_,?_⟩
   ·apply List.eq_nil_iff_forall_not_mem.2
    intro j hj
    obtain⟨h0,o,ho,-⟩:=mem_ready.1 hj
    have hjs:=(Array.getElem?_eq_some_iff.1 ho).1
    rw [zay (by omega)] at h0
    have h9:gV.getD j false=true:=hall j hjs
    rw [h0] at h9;cases h9
   ·rw [zi5 _ hall];exact hfin w hS
 | succ m ih =>
   intro gV w hz hc hu hS
   refine⟨fun hr=>?_,fun j hj=>?_⟩
   ·rw [zi5 _ (none_ready gV hz hr)];exact hfin w hS
   ·obtain⟨h0,o,ho,hall⟩:=mem_ready.1 hj
    have hjs:=(Array.getElem?_eq_some_iff.1 ho).1
    have hl:(fun i=>gV.getD i false) j=false:=by show gV.getD j false=false;rw [<-zay (by omega)];exact h0
    have hl':∀i,(fun i=>(gV.setIfInBounds j true).getD i false) i=(i == j || (fun i=>gV.getD i false) i):=fun i=>by
     show (gV.setIfInBounds j true).getD i false=(i == j || gV.getD i false)
     by_cases e:i=j
     ·subst e
      simp [Array.getD,show i<gV.size by omega]
     ·rw [getD_set_ne false (Ne.symm e)]
      simp [e]
    have hag:=fun (d:Tmp) (hd:d∈o.looksAt ops\/o.dst=some d)=>(zsa (val:=val) (a0:=a0) h hc hl ho hd ops.size (Nat.le_of_lt hjs)).trans (zsc (val:=val) (a0:=a0) (l:=fun i=>gV.getD i false) h hall ho hd j (Nat.le_refl _))
    obtain⟨he,hw⟩:=zlu (ops:=ops) (o:=o) (Region.noSelect_spec hsel j o · · ho) (fun d hd=>hag d (.inl hd))
    have hput:=(zvu (val:=val) (a0:=a0) h hc hl ho hl' ops.size).2 hjs
    have hnext:∀w',S w'->wpAny P md ops Q m (gV.setIfInBounds j true) ((xJ ops val a0 (fun i=>gV.getD i false) ops.size).put o.dst (val j)) w':=fun w' hS'=>by
     rw [<-hput]
     refine ih _ w' (by simpa using hz) ?_ ?_ hS'
     ·intro i hi oi hoi e he2 hb
      have hi':=hl' i
      rw [hi] at hi'
      by_cases ei:i=j
      ·subst ei
       rw [ho] at hoi
       cases hoi
       exact getD_set_true (hall e he2 hb)
      ·have:gV.getD i false=true:=by
        have h1:(i == j)=false:=by simp;exact ei
        rw [h1,Bool.false_or] at hi'
        exact hi'.symm
       exact getD_set_true (hc i this oi hoi e he2 hb)
     ·have:=(zyy hl hl' ops.size).2 hjs
      omega
    have hst:=hstep j o ho
    unfold zeu at hst
    unfold wpOp
    rw [ho]
    simp only [hw]
    by_cases hwt:Region.wanted o (yielded ops (xJ ops val a0 (fun _=>true) j).tmps)=true
    ·rw [if_pos hwt] at hst ⊢
     refine .inl ?_
     unfold Oper.wp
     rw [he]
     exact znm (by rw [VU,VU]) trivial hQ (hst w hS) hnext
    ·rw [if_neg hwt] at hst ⊢
     rw [<-hst]
     exact hnext w hS
def Xv (P:Program) (ops:Array Oper) (Q:Exit->Act->World->Prop) (S:World->Prop):Nat->Nat->Act->Prop
 | 0,_,a=>∀w,S w->Q .normal a w
 | r+1,i,a=>∃o v,ops[i]?=some o/\zeu P ops Q S o a v/\Xv P ops Q S r (i+1) (a.put o.dst v)
theorem zi6 {val val':Nat->Value} {a0:Act} {l:Nat->Bool}:∀k,(∀i,i<k->val i=val' i)->xJ ops val a0 l k=xJ ops val' a0 l k:=by
 intro k
 induction k with
 | zero=>intro _;rfl
 | succ k ih =>
   intro h
   unfold xJ
   rw [ih fun i hi=>h i (by omega),h k (by omega)]
theorem zna (a0:Act):∀(r i:Nat) (val:Nat->Value),Xv P ops Q S r i (xJ ops val a0 (fun _=>true) i)->∃val':Nat->Value,(∀k,k<i->val' k=val k)/\(∀k o,i<=k->k<i+r->ops[k]?=some o->zeu P ops Q S o (xJ ops val' a0 (fun _=>true) k) (val' k))/\∀w,S w->Q .normal (xJ ops val' a0 (fun _=>true) (i+r)) w:=by
 intro r
 induction r with
 | zero=>intro i val h;exact⟨val,fun _ _=>rfl,fun k o h1 h2=>absurd h1 (by omega),h⟩
 | succ r ih =>
   intro i val h
   obtain⟨o,v,ho,hst,hrest⟩:=h
   have e1:∀k,k<i->(fun k=>if k=i then v else val k) k=val k:=fun k hk=>if_neg (by omega)
   have e2:xJ ops (fun k=>if k=i then v else val k) a0 (fun _=>true) (i+1)=(xJ ops val a0 (fun _=>true) i).put o.dst v:=by
    show (if true=true then (xJ ops (fun k=>if k=i then v else val k) a0 (fun _=>true) i).put (ZH ops i) (if i=i then v else val i) else _)=_
    rw [if_pos rfl,if_pos rfl,zi6 i e1]
    unfold ZH;rw [ho];rfl
   rw [<-e2] at hrest
   obtain⟨val',h1,h2,h3⟩:=ih (i+1) _ hrest
   refine⟨val',fun k hk=>(h1 k (by omega)).trans (e1 k hk),fun k ok hk1 hk2 hok=>?_,fun w hS=>?_⟩
   ·by_cases e:k=i
    ·subst e
     rw [ho] at hok
     cases hok
     have e3:val' k=v:=(h1 k (by omega)).trans (if_pos rfl)
     rw [e3,zi6 k fun q hq=>(h1 q (by omega)).trans (e1 q hq)]
     exact hst
    ·exact h2 k ok (by omega) (by omega) hok
   ·have:=h3 w hS
    rw [show i+1+r=i+(r+1) by omega] at this
    exact this
theorem yi {i r:Nat} {o:Oper} {rest:List Oper} {v:Value} {a:Act} (hd:ops.toList.drop i=o :: rest) (hy:YieldsIf P ops S o v a) (h:Xv P ops Q S r (i+1) (a.put o.dst v)):Xv P ops Q S (r+1) i a:=by
 refine⟨o,v,Yg hd,?_,h⟩
 unfold zeu
 rcases hy with ⟨hw,hy⟩ | ⟨hw,hv⟩
 ·rw [if_pos hw]
  intro w hS
  unfold Oper.wp
  rw [hy w hS]
  exact⟨rfl,hS⟩
 ·rw [if_neg (by rw [hw];exact Bool.false_ne_true)];exact hv
theorem stk {i r:Nat} {o:Oper} {rest:List Oper} {v:Value} {a a':Act} (hd:ops.toList.drop i=o :: rest) (h:Xv P ops Q S r (i+1) a')
  (hy:YieldsIf P ops S o v a:=by refine Or.inl ⟨by rfl,?_⟩;intro w hSw;(try dsimp only at hSw);go_simp;(try with_reducible rfl))
  (ha:a.put o.dst v=a':=by (try simp only [Act.put,List.setIfInBounds_toArray,List.set_cons_zero,List.set_cons_succ]);exact rfl):Xv P ops Q S (r+1) i a:=yi hd hy (ha ▸ h)
theorem Yd {i r:Nat} {o:Oper} {rest:List Oper} (v:Value) {a:Act} (hd:ops.toList.drop i=o :: rest) (hw:Region.wanted o (yielded ops a.tmps)=true)
  (hc:∀w,S w->∀K:Act->World->Prop,Shut (∀a' w',a'=a.put o.dst v->S w'->K a' w')->Oper.wp P o a w K Q) (h:Xv P ops Q S r (i+1) (a.put o.dst v)):Xv P ops Q S (r+1) i a:=by
 refine⟨o,v,Yg hd,?_,h⟩
 unfold zeu
 rw [if_pos hw]
 exact fun w hS=>hc w hS _ fun a' w' ha hS'=>⟨ha,hS'⟩
theorem Va {i:Nat} {a:Act} (h:∀w,S w->Q .normal a w):Xv P ops Q S 0 i a:=h
theorem Yj {id:Nat} {a:Act} {w:World} (S:World->Prop) (n:Nat) (hn:ops.size=n) (hm:P.follows .mixedOrders=true) (hst:ZV .any ops=true) (hsel:Region.noSelect ops=true) (hS:S w.drew)
  (h:Xv P ops (NoPanic Q) S n 0 a):(Code.region id ops true).wp P Q a w:=by
 refine wp_region_noPanic (wp_region_any hm ?_)
 obtain⟨val,-,h2,h3⟩:=zna (P:=P) (ops:=ops) a n 0 (fun _=>undef) h
 have hl:∀i,(Array.replicate ops.size false).getD i false=false:=fun i=>by
  simp [Array.getD]
 have hg:=zsh (P:=P) (Q:=NoPanic Q) (S:=S) val a hst hsel (fun _ _ _ h=>h) (fun i o ho=>h2 i o (Nat.zero_le _) (by rw [<-hn];rw [Nat.zero_add];exact (Array.getElem?_eq_some_iff.1 ho).1) ho) (fun w hS=>by have:=h3 w hS;rw [Nat.zero_add,<-hn] at this;exact this)
  ops.size (Array.replicate ops.size false) w.drew (by simp) (fun j hj=>by have h9:(Array.replicate ops.size false).getD j false=true:=hj;rw [hl] at h9;cases h9) ?_ hS
 ·have e:∀k,xJ ops val a (fun i=>(Array.replicate ops.size false).getD i false) k=a:=fun k=>by
   induction k with
   | zero=>rfl
   | succ k ih=>unfold xJ;rw [if_neg (by rw [hl];exact Bool.false_ne_true)];exact ih
  rw [e] at hg
  exact hg
 ·have:∀(l:Nat->Bool) k,ze5 l k<=k:=fun l k=>by
   induction k with
   | zero=>exact Nat.le_refl _
   | succ k ih=>unfold ze5;split <;> omega
  exact this _ _
end Go.Proofs.YtjoapiafpahihabGreat
