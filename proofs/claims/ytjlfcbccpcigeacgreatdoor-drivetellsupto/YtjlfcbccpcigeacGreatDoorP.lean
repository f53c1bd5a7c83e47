import Derived.Test.YtjlfcbccpcigeacGreatDoorK
import Derived.Test.YtjlfcbccpcigeacGreatDoorO
set_option maxHeartbeats 40000000
set_option linter.defProp false
namespace Go.Proofs.YtjlfcbccpcigeacGreatDoor
open Go.Proofs.Tryz Go.RowKit Go.Joins
set_option linter.unusedVariables false
set_option linter.unusedSimpArgs false
set_option maxRecDepth 8192
def uH:Prop:=∀(s:Li) (w:wO),xq w->By s->s.length<=1100000->Calls Tryz.prog 7 #[.string (strOfNums s)] w fun e w'=>∃a,e=.returned (.string (strOfNums a))/\Vx s a/\a.length<=600060/\Bw w w'
section
variable {v v':vO} {w':wO} {e T:TypeId} {n o B b:Nat} {xs:List vO} {ops:Array Oper} {rest:List Oper} {a:Act} {Q:Exit->Act->wO->Prop} {cs:Array vO} {l:Li}
theorem BS {u:vO} {w:wO} (h:w'.ownsRowF w.heap.size e 1 v n xs):mh u v w:=by
 intro g a;rcases h.2 with ⟨rfl,_⟩ | ⟨c,cap,b,d,rfl,hb,_⟩
 ·cases a
 have:c=g:=by simpa [Value.ownBlock] using a
 lia
section
variable {P:Program} (w:wO)
def MJ (base:Nat) (t u c e:TypeId) (i:TypeInfo) (j:P.underlying t=some (.slice e)) (l:P.underlying u=some .string) (hi:P.info? e=some i) (p:i.zero=some (.int .u8 0)) (m:i.size=1) (o:i.bytes=1) (v:vO) (n:Nat) (xs:List vO) (b:w.ownsRowF base e 1 v n xs) (s:ByteArray) (r:n+s.size<=maxLen) (q:n+s.size<=140737488355328) (h:(Builtin.append_ #[t,u] c #[v,.string s]).run P w=.ok v' w'):mh v v' w:=by
 rcases b.2 with ⟨rfl,rfl⟩ | ⟨g,cap,d,x,rfl,z,y,D,A,F,G,C⟩
 ·obtain⟨H,w1,r1,r2,-⟩:=Lib.run_append_own_stringF (P:=P) w w.z t u c e i j l hi p m o sN 0 xs ⟨b.1,.inl ⟨rfl,rfl⟩⟩ s r q (Qc _);grind [BS]
 have B:xs.length=n:=by simpa using b.1
 by_cases a:n+s.size<=cap
 ·rw [Lib.run_append_room_stringF (P:=P) w t u c e i j l hi m g n cap d x y lI s a lI] at h;injection h with e1 e2;subst e1;exact fun k f=>.inl f
 rw [Lib.run_append_grow_string (P:=P) w t u c e i (.int .u8 0) j l hi p (E g 0) n cap xs sA (b.cells (g:=g) rfl) s lI lI (by rw [o];exact growslice_fits lI lI)] at h;injection h with e1 e2;subst e1;intro k f;have:w.z=k:=by simpa [Value.ownBlock] using f
 lia
def MK (base:Nat) (t o e:TypeId) (i:TypeInfo) (z:vO) (bytes:Nat) (s:P.underlying t=some (.slice e)) (hi:P.info? e=some i) (B:i.zero=some z) (f:i.size=1) (A:i.bytes=bytes) (C:z.cells.size=1) (v:vO) (n:Nat) (xs:List vO) (l:w.ownsRowF base e 1 v n xs) (a:Addr) (m c:Nat) (b:List vO) (O:b.length=m) (p:∀j u,b[j]?=some u->w.cell? (a.add j)=some u) (h1:∀u∈b,u.oneCell') (y:n+m<=maxLen) (x:(n+m)*bytes<=140737488355328) (h:(Builtin.append_ #[t,t] o #[v,.slice (some a) m c]).run P w=.ok v' w'):mh v v' w:=by
 rcases l.2 with ⟨rfl,rfl⟩ | ⟨g,cap,q,F,rfl,H,G,D,I,M,N,L⟩
 ·obtain⟨Q,w1,r1,r2,-⟩:=run_append_ownF (P:=P) w w.z t o e i z 1 bytes s hi B f A C lI sN 0 xs ⟨l.1,.inl ⟨rfl,rfl⟩⟩ a m c b lI p h1 y x (Qc _);grind [BS]
 have K:xs.length=n:=by simpa using l.1
 by_cases d:n+m<=cap
 ·rw [run_append_roomF (P:=P) w t o e i s hi g n cap q F G (by rw [f];exact D) a m c b (by rw [f];lia) p h1 d (by rw [f];lia)] at h;injection h with e1 e2;subst e1;exact fun k r=>.inl r
 rw [run_append_grow (P:=P) w t o e i z s hi B (E g 0) n cap xs (by rw [f];lia) (l.cells (g:=g) rfl) a m c b (by rw [f];lia) p lI (by simp only [maxLen] at y;lia) (by rw [A];exact growslice_fits lI x)] at h;injection h with e1 e2;subst e1;intro k r;have:w.z=k:=by simpa [Value.ownBlock] using r
 lia
def ML {o:Oper} (m:o.guard=none) (sl x:Operand) (t u:TypeId) (A:o.op=.call { callee:=.builtin .append,args:=#[sl,x],argTypes:=#[t,u] }) (base:Nat) (e:TypeId) (i:TypeInfo) (j:P.underlying t=some (.slice e)) (k:P.underlying u=some .string) (hi:P.info? e=some i) (l:i.zero=some (.int .u8 0)) (b:i.size=1) (f:i.bytes=1) (v:vO) (n:Nat) (xs:List vO) (hs:a.eval sl=v) (g:w.ownsRowF base e 1 v n xs) (s:ByteArray) (B:a.eval x=.string s) (d:n+s.size<=maxLen) (c:n+s.size<=140737488355328) (p:base<=w.heap.size)
  (h:∀v' w',w'.ownsRowF base e 1 v' (n+s.size) (xs++Lib.strCells s)->w.grownBy w' v.ownBlock->mh v v' w->wpList P ops Q rest (a.put o.dst v') w'):wpList P ops Q (o :: rest) a w:=by refine wpList_plain m fun K z=>?_;obtain⟨v',w',hr,q,r,-⟩:=Lib.run_append_own_stringF (P:=P) w base t u o.type e i j k hi l b f v n xs g s d c p;have y:=MJ w base t u o.type e i j k hi l b f v n xs g s d c hr;unfold Oper.wp execOp;simp only [A,resolve,invoke,builtin,Sem.run_bind,Sem.run_pure,Result.andThen_ok,List.map_toArray,Ef,E1,hs,B,hr];exact z _ _ (h v' w' q r y)
def MM {o:Oper} (A:o.guard=none) (s x:Operand) (t:TypeId) (I:o.op=.call { callee:=.builtin .append,args:=#[s,x],argTypes:=#[t,t] }) (base:Nat) (e:TypeId) (i:TypeInfo) (z:vO) (bytes:Nat) (r:P.underlying t=some (.slice e)) (hi:P.info? e=some i) (y:i.zero=some z) (f:i.size=1) (p:i.bytes=bytes) (d:z.cells.size=1) (v:vO) (n:Nat) (xs:List vO) (hs:a.eval s=v) (q:w.ownsRowF base e 1 v n xs) (E:Addr) (m c:Nat) (b:List vO) (L:a.eval x=.slice (some E) m c) (H:b.length=m) (k:∀j u,b[j]?=some u->w.cell? (E.add j)=some u) (h1:∀u∈b,u.oneCell') (l:n+m<=maxLen) (g:(n+m)*bytes<=140737488355328) (B:base<=w.heap.size)
  (h:∀v' w',w'.ownsRowF base e 1 v' (n+m) (xs++b)->w.grownBy w' v.ownBlock->mh v v' w->wpList P ops Q rest (a.put o.dst v') w'):wpList P ops Q (o :: rest) a w:=by refine wpList_plain A fun K G=>?_;obtain⟨v',w',hr,C,D,-⟩:=run_append_ownF (P:=P) w base t o.type e i z 1 bytes r hi y f p d lI v n xs q E m c b lI k h1 l g B;have F:=MK w base t o.type e i z bytes r hi y f p d v n xs q E m c b H k h1 l g hr;unfold Oper.wp execOp;simp only [I,resolve,invoke,builtin,Sem.run_bind,Sem.run_pure,Result.andThen_ok,List.map_toArray,Ef,E1,hs,L,hr];exact G _ _ (h v' w' C D F)
end
def Tryz.iby8:(prog.info? 5).map (fun i=>(i.zero,i.size,i.bytes))=some (some (.int .u8 0),1,1):=kR
def Tryz.ibd8:(prog.info? 43).map (fun i=>(i.zero,i.size,i.bytes))=some (some (.agg #[.pointer none,.slice none 0 0]),2,32):=kR
structure fl (B b o:Nat) (T:TypeId) (cs:Array vO) (v:vO) (l:Li) (w:wO):Prop where
 hT:(T=45/\o=7/\cs.size=9)\/(T=43/\o=0/\cs.size=2)
 hb:w.heap[b]?=some (.cells cs T (0,0))
 hB:B<=b
 h0:cs[o]?=some (.pointer none)\/cs[o]?=some (.pointer (some (E b o)))
 h1:cs[o+1]?=some v
 own:w.ownsRowF B 5 1 v l.length (Lib.byteCells (b8 l))
def mW {w:wO} (hb:w.heap[b]?=some (.cells cs T (0,0))) (h:w.ownsRowF B e 1 v n xs) (hT:T≠e):v.ownBlock≠some b:=by
 intro a;rcases h.2 with ⟨rfl,_⟩ | ⟨d,cap,c,f,rfl,_,g,_⟩
 ·cases a
 have:d=b:=by simpa [Value.ownBlock] using a
 simp_all
def fl.ne {w:wO} (h:fl B b o T cs v l w):v.ownBlock≠some b:=mW h.hb h.own (by rcases h.hT with ⟨h,_⟩ | ⟨h,_⟩ <;> (rw [h];decide))
def jd (b o:Nat):vO:=.pointer (some (E b o))
def BT (w:wO) (h:fl B b o T cs v l w) :
  Cp 27 #[.pointer (some (E b o))] w fun e w'=>e=.returned (.tuple #[])/\fl B b o T (cs.setIfInBounds o (jd b o)) v l w'/\w'.cell? (E b o)=some (jd b o)/\Kp b v v w w'/\w'.heap.size=w.heap.size:=by
 obtain⟨j,f,D,C,F⟩:=info_parts Tryz.ibd8;have G:o+1<cs.size:=by rcases h.hT with ⟨_,h1,a⟩ | ⟨_,h1,a⟩ <;> omega
 have n:w.shape? b=some (T,cs.size):=by simp [World.shape?,h.hb]
 have H:w.frozen? (E b o)=false:=Lib.frozen_of_heap h.hb o;rcases h.h0 with h0 | h0
 ·have p:w.c b o=some (.pointer none):=(Qa h.hb o).t h0;have u:liesAt prog prog.depth T (cs.size / prog.cellsOf T) o 43 1:=by rcases h.hT with ⟨rfl,rfl,a⟩ | ⟨rfl,rfl,a⟩ <;> (rw [a];kernel_rfl)
  have c:Hid (fl B b o T (cs.setIfInBounds o (jd b o)) v l (w.st b o (jd b o))/\(w.st b o (jd b o)).c b o=some (jd b o)/\Kp b v v w (w.st b o (jd b o))/\(w.st b o (jd b o)).heap.size=w.z):=by have q:=Yc (i:=o) (v:=jd b o) h.hb;have s:(cs.setIfInBounds o (jd b o))[o]?=some (jd b o):=(by grind);have t:∀k,k≠b->(w.st b o (jd b o)).heap[k]?=w.heap[k]?:=fun k m=>Qj _ _ _ _ m;refine⟨⟨by simpa using h.hT,q,h.hB,.inr s,by rw [Q1,Qe oM];exact h.h1,?_⟩,(Qa q o).t s,⟨rfl,rfl,rfl,by simp [World.setCell],fun k _ m _=>t k m,fun _ h=>.inl h⟩,by simp [World.setCell]⟩;obtain⟨A,hr⟩:=h.own;refine⟨A,hr.imp id ?_⟩;rintro ⟨g,cap,d,x,rfl,y,z,r⟩;exact⟨g,cap,d,x,rfl,y,by rw [t g (fun e=>h.ne (by rw [<-e];rfl))];exact z,r⟩
  clear h h0;go_enter func27,ntmps27;go_wp2;rw [Lib.run_to_unsafe w (E b o) underlying40 underlying128 f oM n rQ];simp only [Result.andThen];rw [Oper.upon_value];go_wp2;rw [run_callFunc_extern func61 kR kR kR (e:=Extern.AbiNoEscape.same) kR];rw [Lib.run_noEscape];simp only [Result.andThen];rw [Oper.upon_value];go_wp2;rw [Lib.run_from_unsafe w (E b o) underlying128 underlying40 f n u];simp only [Result.andThen];rw [Oper.upon_value];go_wp2;go_end0;exact⟨rfl,c⟩
 have p:w.c b o=some (.pointer (some (E b o))):=(Qa h.hb o).t h0;have c:Hid (fl B b o T (cs.setIfInBounds o (jd b o)) v l w):=by
  have e:cs.setIfInBounds o (jd b o)=cs:=by
   apply Array.ext_getElem?;intro i;rw [Q1];split
   ·rename_i e;subst e;rw [Qf oM,h0];rfl
   rfl
  show fl _ _ _ _ _ _ _ _;rw [e];exact h
 clear h h0;go_enter func27,ntmps27;go_wp2;rw [Lib.run_neq_ptr_same w _ underlying40 f];go_wp2;go_end0;exact⟨rfl,c,p,Kp.refl _ _ _,rfl⟩
def MN {w:wO} (h:w.ownsRowF B e 1 v n xs):∀k,v.ownBlock=some k->B<=k:=fun k a=>by
 rcases h.2 with ⟨rfl,_⟩ | ⟨c,cap,b,d,rfl,f,_⟩
 ·cases a
 ·have:c=k:=by simpa [Value.ownBlock] using a
  lia
def XI {w:wO} (h:w.ownsRowF B e 1 v n xs):∃a c,v=.slice a n c:=by
 rcases h.2 with ⟨rfl,rfl⟩ | ⟨f,cap,b,d,rfl,_⟩
 ·exact⟨_,_,rfl⟩
 exact⟨_,_,rfl⟩
def fl.put {m:Li} {w w2:wO} (h:fl B b o T cs v l w) (A:cs[o]?=some (jd b o)) (p:w2.ownsRowF B 5 1 v' m.length (Lib.byteCells (b8 m))) (a:w.grownBy w2 v.ownBlock) (hn:mh v v' w) :
  fl B b o T (cs.setIfInBounds (o+1) v') v' m (w2.setCell (E b (o+1)) v')/\Kp b v v' w (w2.setCell (E b (o+1)) v'):=by
 have q:b<w.z:=(lo h.hb);have j:w2.heap[b]?=some (.cells cs T (0,0)):=(a.block b q (fun e=>h.ne e.s)).t h.hb;have t:=Yc (i:=o+1) (v:=v') j;have D:o+1<cs.size:=by rcases h.hT with ⟨_,h1,x⟩ | ⟨_,h1,x⟩ <;> lia
 have n:∀k,k≠b->(w2.st b (o+1) v').heap[k]?=w2.heap[k]?:=fun k d=>Qj _ _ _ _ d;have s:=mW j p (by rcases h.hT with ⟨h,_⟩ | ⟨h,_⟩ <;> (rw [h];decide));refine⟨⟨by simpa using h.hT,t,h.hB,.inr ?_,?_,?_⟩,⟨a.os,a.tape,a.output,QH a.size (by simp [World.setCell]),fun k d f C=>(n k f).t (a.block k d fun e=>C e.s),hn⟩⟩
 ·rw [Q1,Qe lI];exact A
 ·grind
 obtain⟨z,hr⟩:=p;refine⟨z,hr.imp id ?_⟩;rintro ⟨g,cap,c,u,rfl,a,y,r⟩;exact⟨g,cap,c,u,rfl,a,by rw [n g (fun e=>s (by rw [<-e];rfl))];exact y,r⟩
def pT (B b o:Nat) (T:TypeId) (cs:Array vO) (v:vO) (m:Li) (w w':wO):Prop:=∃v',fl B b o T ((cs.setIfInBounds o (jd b o)).setIfInBounds (o+1) v') v' m w'/\Kp b v v' w w'
def BU (m:Li) (w:wO) (h:fl B b o T cs v l w) (hB:B<=w.heap.size) (O:l.length<=10000000) (hm:m.length<=10000000) :
  Cp 13 #[.pointer (some (E b o)),.string (strOfNums m)] w fun e w'=>e=.returned (.tuple #[J m.length,.nilIface])/\pT B b o T cs v (l++m) w w':=by
 obtain⟨K,hi,D,F,G⟩:=info_parts Tryz.iby8;have t:=Z (BT w h);have c:(strOfNums m).size=m.length:=strOfNums_size m;obtain⟨S,hS⟩:=nm (strOfNums m);have A:Hid (Lib.strCells S=Lib.byteCells (b8 m)):=by show _=_;rw [<-hS,Lib.strCells_eq,yP]
 rw [hS] at c ⊢;have d:=Z c;rw [<-c];clear h hS c;go_enter func13,ntmps13;go_wp2_with fail;apply t.m;rintro e w1 ⟨rfl,h1,r,s,H⟩;have L:w1.c b (o+1)=some v:=(Qa h1.hb (o+1)).t h1.h1;have p:=Z h1;have z:Hid ((cs.setIfInBounds o (jd b o))[o]?=some (jd b o)):=(Qa h1.hb o).s.t r;have y:=Z s;obtain⟨i,k,rfl⟩:=XI h1.own;have x:Hid (∀w2,w1.grownBy w2 (Value.slice i l.length k).ownBlock->w2.c b (o+1)=some (.slice i l.length k)/\w2.frozen? (E b (o+1))=false):=fun w2 I=>by have q:=(I.block b (lo h1.hb) (fun e=>h1.ne e.s)).t h1.hb;exact⟨(Qa q (o+1)).t h1.h1,Lib.frozen_of_heap q _⟩
 have C:Hid (B<=w1.heap.size):=by show _<=_;omega
 clear h1 s H r;go_wp2_with (at_builtin;refine ML _ rfl (.tmp 12) (.tmp 13) 41 9 rfl B 5 K underlying41 underlying9 hi D F G _ _ _ rfl p.own S rfl ?c3 ?c4 C ?_)
 case c3=>have:=d.o;unfold maxLen;omega
 case c4=>have:=d.o;omega
 intro v' w2 f g a;obtain⟨M,N⟩:=x w2 g;obtain⟨j,n,rfl⟩:=XI f;have u:Hid (pT B b o T cs (.slice i l.length k) (l++m) w (w2.st b (o+1) (.slice j (l.length+S.size) n))):=by have:=p.put (m:=l++m) z (by rw [Qt,nX,Lib.byteCells_append,<-d,<-A];exact f) g a;exact⟨_,this.1,y.t this.2⟩
 clear f g a;go_wp2;go_ret2;exact⟨rfl,u⟩
def BV (w:wO) (h:fl B b o T cs v l w) (hB:B<=w.heap.size) (Q:l.length<=10000000) :
  Cp 16 #[.pointer (some (E b o)),.int .u8 10] w fun e w'=>e=.returned .nilIface/\pT B b o T cs v (l++[10]) w w':=by
 obtain⟨M,hi,F,G,H⟩:=info_parts Tryz.iby8;have x:=Z (BT w h);clear h;go_enter func16,ntmps16;go_wp2_with fail;apply x.m;rintro e w0 ⟨rfl,h0,t,r,K⟩;have N:w0.c b (o+1)=some v:=(Qa h0.hb (o+1)).t h0.h1;have c:Bw w0 (w0.alloc (.cells #[.int .u8 10] 5)):=Qd _ _;have h1:fl B b o T (cs.setIfInBounds o (jd b o)) v l (w0.alloc (.cells #[.int .u8 10] 5)):={ h0 with hb:=(c.block b (lo h0.hb)).t h0.hb,own:=No c h0.own };have q:=Z h1;have C:Hid ((cs.setIfInBounds o (jd b o))[o]?=some (jd b o)):=(Qa h0.hb o).s.t t;have A:=Z (r.t (Kp.of_below (b:=b) (u:=v) c));obtain⟨i,n,rfl⟩:=XI h1.own;have z:Hid (∀w2,(w0.alloc (.cells #[.int .u8 10] 5)).grownBy w2 (Value.slice i l.length n).ownBlock->w2.c b (o+1)=some (.slice i l.length n)/\w2.frozen? (E b (o+1))=false):=fun w2 L=>by have s:=(L.block b (lo h1.hb) (fun e=>h1.ne e.s)).t h1.hb;exact⟨(Qa s (o+1)).t h1.h1,Lib.frozen_of_heap s _⟩
 have D:Hid (B<=(w0.alloc (.cells #[.int .u8 10] 5)).heap.size):=by show _<=_;have:=c.size;omega
 have I:Hid (∀(j:Nat) (u:vO),[Value.int .u8 10][j]?=some u->(w0.alloc (.cells #[.int .u8 10] 5)).cell? (((E w0.z 0):Addr).add j)=some u):=fun j u d=>by
  cases j with
  | zero =>have e:Value.int .u8 10=u:=(by simpa using d);subst e;exact (Qa (zm w0 _ _) 0).t rfl
  | succ j=>simp at d
 clear h0 h1 r K t c;go_wp2_with (at_builtin;refine MM _ rfl (.tmp 11) (.tmp 13) 41 rfl B 5 M (.int .u8 0) 1 underlying41 hi F G H rfl _ _ _ rfl q.own (E w0.z 0) 1 1 [.int .u8 10] rfl rfl I (by intro u d;simp at d;subst d;rfl) mL oM D ?_);intro v' w2 f g a;obtain⟨O,P⟩:=z w2 g;obtain⟨k,p,rfl⟩:=XI f;have y:Hid (pT B b o T cs (.slice i l.length n) (l++[10]) w (w2.st b (o+1) (.slice k (l.length+1) p))):=by have:=q.put (m:=l++[10]) C (by rw [Qt,nX,Lib.byteCells_append];exact f) g a;exact⟨_,this.1,A.t this.2⟩
 clear f g a;go_wp2;go_ret;exact⟨rfl,y⟩
def MO (w:wO) (h:fl B b o T cs v l w) :
  Cp 67 #[.pointer (some (E b o))] w (Re w (J l.length)):=by obtain⟨a,c,rfl⟩:=XI h.own;have d:w.c b (o+1)=some (.slice a l.length c):=(Qa h.hb (o+1)).t h.h1;clear h;go_enter func67,ntmps67;go_wp2;go_ret;exact⟨rfl,rfl⟩
def MP (w:wO) (h:fl B b o T cs v l w) :
  Cp 70 #[.pointer (some (E b o))] w fun e w'=>e=.returned (.tuple #[])/\fl B b o T ((cs.setIfInBounds o (.pointer none)).setIfInBounds (o+1) (.slice none 0 0)) (.slice none 0 0) [] w'/\Kp b v (.slice none 0 0) w w':=by
 have m:o+1<cs.size:=by rcases h.hT with ⟨_,h1,f⟩ | ⟨_,h1,f⟩ <;> omega
 obtain⟨p,n⟩:∃p,w.c b o=some p:=by rcases h.h0 with h0 | h0 <;> exact⟨_,(Qa h.hb o).t h0⟩
 have q:w.c b (o+1)=some v:=(Qa h.hb (o+1)).t h.h1;have r:w.frozen? (E b o)=false:=Lib.frozen_of_heap h.hb o;have s:w.frozen? (E b (o+1))=false:=Lib.frozen_of_heap h.hb (o+1);have c:Hid (fl B b o T ((cs.setIfInBounds o (.pointer none)).setIfInBounds (o+1) sN) sN [] ((w.st b o (.pointer none)).st b (o+1) sN)/\Kp b v sN w ((w.st b o (.pointer none)).st b (o+1) sN)):=by
  have d:=Yc (i:=o+1) (v:=sN) (Yc (i:=o) (v:=.pointer none) h.hb);refine⟨⟨by simpa using h.hT,d,h.hB,.inl ?_,?_,⟨rfl,.inl ⟨rfl,rfl⟩⟩⟩,⟨rfl,rfl,rfl,by simp [World.setCell],fun k _ a _=>(Qj _ _ _ _ a).t (Qj _ _ _ _ a),fun g j=>by cases j⟩⟩
  ·grind
  simp_all
 clear h;go_enter func70,ntmps70;go_wp2;go_end0;exact⟨rfl,c⟩
def BX (w:wO) (h:fl B b o T cs v l w) (hn:l=[]->v=.slice none 0 0) (I:l.length<=10000000) :
  Cp 17 #[.pointer (some (E b o))] w fun e w'=>e=.returned (.string (strOfNums l))/\fl B b o T cs v l w'/\Kp b v v w w'/\w'.heap.size=w.heap.size:=by
 by_cases h0:l=[]
 ·have m:=hn h0;subst m h0;have A:∀W,(Builtin.unsafeString_ #[92,3] 9 #[.pointer none,J 0]).run prog W=.ok (.string ⟨#[]⟩) W:=fun W=>rfl;have H:w.drew.c b (o+1)=some sN:=(Qa (w:=w.drew) h.hb (o+1)).t h.h1;have z:(Builtin.unsafeSliceData_ #[41] 92 #[sN]).run prog w.drew=.ok (.pointer none) w.drew:=rfl;have f:Hid (fl B b o T cs sN [] w.drew/\Kp b sN sN w w.drew/\w.drew.heap.size=w.heap.size):=⟨{ h with hb:=h.hb,own:=h.own },⟨rfl,rfl,rfl,Qc _,fun _ _ _ _=>rfl,fun _ h=>.inl h⟩,rfl⟩;clear h hn I;go_enter func17,ntmps17;go_wp2;go_region;all_goals (go_wp2;go_ret;exact⟨rfl,f⟩)
 have M:l.length≠0:=by simpa using h0
 have d:=h.own;obtain⟨g,cap,a,c,rfl,u,t,N,y,G,s,q⟩:∃g cap a c,v=vP g l.length cap/\B<=g/\w.heap[g]?=some (.cells a 5 c)/\c.2<=l.length*1/\l.length<=cap/\cap<=maxLen/\a.size=cap*1/\a.toList.take (l.length*1)=Lib.byteCells (b8 l):=by
  rcases d.2 with ⟨_,Q⟩ | ⟨g,cap,a,c,m,r⟩
  ·omega
  exact⟨g,cap,a,c,m,r⟩
 have H:w.drew.c b (o+1)=some (vP g l.length cap):=(Qa (w:=w.drew) h.hb (o+1)).t h.h1;have z:(Builtin.unsafeSliceData_ #[41] 92 #[vP g l.length cap]).run prog w.drew=.ok (.pointer (pA g)) w.drew:=Lib.run_unsafeSliceData_row _ _ _ _ _ _ oM;have F:b8 l≠[]:=fun e=>h0 (List.map_eq_nil_iff.1 e);have A:(Builtin.unsafeString_ #[92,3] 9 #[.pointer (pA g),J l.length]).run prog w.drew=.ok (.string (strOfNums l)) (w.drew.freeze (E g 0) l.length):=by have:=Lib.run_unsafeString_row (P:=prog) w.drew 92 3 9 5 underlying92 kR g a.size (by have n:w.drew.heap[g]?=some (.cells a 5 c):=t;simp [World.shape?,n]) (b8 l) F (by rw [UE];omega) (by grind [UE]) (fun j x L=>d.cells (g:=g) rfl j (.int .u8 x.toNat) (by simp [Lib.byteCells,L]));rw [UE] at this;exact this
 have D:g≠b:=fun e=>h.ne (by rw [<-e];rfl);have C:(w.drew.freeze (E g 0) l.length).heap.size=w.heap.size:=by
  unfold World.freeze;split
  ·rfl
  simp
 have p:∀k,k≠g->(w.drew.freeze (E g 0) l.length).heap[k]?=w.heap[k]?:=fun k O=>by
  unfold World.freeze;split
  ·rfl
  simp only [QC];rw [Qe oM];rfl
 have f:Hid (fl B b o T cs (vP g l.length cap) l (w.drew.freeze (E g 0) l.length)/\Kp b (vP g l.length cap) (vP g l.length cap) w (w.drew.freeze (E g 0) l.length)/\(w.drew.freeze (E g 0) l.length).heap.size=w.heap.size):=by
  have i:(w.drew.freeze (E g 0) l.length).os=w.os/\(w.drew.freeze (E g 0) l.length).tape=w.tape/\(w.drew.freeze (E g 0) l.length).output=w.output:=by unfold World.freeze;split <;> exact⟨rfl,rfl,rfl⟩
  refine⟨{ h with hb:=(p b (Ne.s D)).t h.hb,own:=?_ },⟨i.1,i.2.1,i.2.2,oM,fun k _ _ K=>p k (fun e=>K (by rw [e];rfl)),fun _ h=>.inl h⟩,C⟩;obtain⟨lo,hi⟩:=c;refine⟨d.1,.inr ⟨g,cap,a,if lo == hi then (0,0+l.length) else (min lo 0,max hi (0+l.length)),rfl,u,?_,?_,y,G,s,q⟩⟩
  ·have n:w.drew.heap[g]?=some (.cells a 5 (lo,hi)):=t;unfold World.freeze;grind
  simp_all
 clear h hn d q s;go_enter func17,ntmps17;go_wp2;go_region;all_goals (go_wp2;go_ret;exact⟨rfl,f⟩)
end
section
variable {x k0 k1:Int} {L:Lp} {t:Tg} {K:Kn} {kv:vO}
def tW:∀(a:List Li) (L:Lp) (k:Nat),(jx L a k).2.1=0->zQ (jx L a k).1
 | [],L,k,h=>by cases h
 | [l],L,k,h=>by
   grind [jx]
 | p :: q :: c,L,k,h=>by
   unfold jx at h ⊢
   cases e:YS L (zx 32 p) with
   | none=>rw [e] at h;cases h
   | some b=>rw [e] at h;exact tW (q :: c) b (k+1) h
theorem C9:∀(a:List Li) (L:Lp) (k:Nat),(jx L a k).2.2<=k+a.length
 | [],L,k=>by show k<=_;lia
 | [l],L,k=>by
   grind [jx]
 | p :: q :: c,L,k=>by
   unfold jx
   cases e:YS L (zx 32 p) with
   | none=>show k<=_;lia
   | some b=>have:=C9 (q :: c) b (k+1);simp only [Q5] at this ⊢;lia
theorem tX (x:Int):∀s:Li,(zx x s).length<=s.length+1
 | []=>Qc _
 | c :: s=>by
   have ih:=tX x s
   grind [zx]
def tY (s:Li):(yt s).2.2<=s.length+1:=by grind [yt,C9,tX]
def lR (h0:-9223372036854775808<=x) (h1:x<=9223372036854775807):∀i,i<[x].length->-9223372036854775808<=ak [x] i/\ak [x] i<=9223372036854775807:=by grind [ak]
def qA {y:Int} (h0:-9223372036854775808<=x) (h1:x<=9223372036854775807) (a:-9223372036854775808<=y) (b:y<=9223372036854775807):∀i,i<[x,y].length->-9223372036854775808<=ak [x,y] i/\ak [x,y] i<=9223372036854775807:=by grind [ak]
def tZ (hm:zQ L) (c:zS t):ZL L t<=96/\xS L t<=96:=by obtain⟨h1,d⟩:=mN hm c;have a:=sF (P:=xU L t) hm c (QR _) lI;have b:((xU L t).toNat:Int)=xU L t:=WH lI;rw [<-b] at a;have f:=BA (P:=(xU L t).toNat) (T:=Xl L t) (by rw [b] at a ⊢;exact a);have g:=Bz (P:=(xU L t).toNat) (T:=Xl L t) (by rw [b] at a ⊢;exact a);lia
def qB (h:yN L t 1 (some K)):K.ops.length<=16/\(1<=K.pc/\K.pc<=200)/\(1<=K.st/\K.st<=1001)/\∀i,i<K.ops.length->(0<=(zv K.ops i).sl/\(zv K.ops i).sl<=200)/\(0<=(zv K.ops i).sg/\(zv K.ops i).sg<=1001)/\0<=(zv K.ops i).d/\(zv K.ops i).d<=128:=by obtain⟨P,T,D,a,-,hR,rfl⟩:=h.made _ rfl;obtain⟨k,h1,b,c,f,-,g,j⟩:=Zo (DB a (hR.dests a));obtain⟨-,-,-,-,o⟩:=yi k;refine⟨g,⟨h1,b⟩,⟨c,f⟩,fun i hi=>?_⟩;obtain⟨l,m,n,-⟩:=tw (j i hi);exact⟨lI,lI,lI,lI⟩
def lS {B:Nat} {y:wO} {c:Int} {i:Option Addr} {f j:Nat} (h:(c=1/\f=0/\yQ y (.agg #[J k0,J k1,kv]) ⟨0,0,[]⟩/\yN L t 1 none)\/(c=0/\∃K,yQ y (.agg #[J k0,J k1,kv]) K/\nD B y (.slice i f j) (X8 L.b.length)/\yN L t 1 (some K))) :
  ∃K ka kc,(k0=K.pc/\k1=K.st/\kv=.slice ka K.ops.length kc)/\yQ y (.agg #[J k0,J k1,kv]) K/\((c=1/\yN L t 1 none)\/(c=0/\nD B y (.slice i f j) (X8 L.b.length)/\yN L t 1 (some K))):=by
 have key:∀K,yQ y (.agg #[J k0,J k1,kv]) K->∃ka kc,k0=K.pc/\k1=K.st/\kv=.slice ka K.ops.length kc:=fun K k=>by obtain⟨v,l,a,cap,m,-⟩:=k;simp_all
 rcases h with ⟨h1,-,d,g⟩ | ⟨h1,K,d,n,g⟩
 ·obtain⟨a,b,h⟩:=key _ d;exact⟨_,a,b,h,d,.inl ⟨h1,g⟩⟩
 grind
def qH {x:wO} {g:Nat} (b:yQ x (.agg #[J k0,J k1,kv]) K) (hb:x.heap[g]?=some (kB 0 0 none 0 0)) :
  yQ (((x.setCell (E g 0) (J k0)).setCell (E g 1) (J k1)).setCell (E g 2) kv) (.agg #[J k0,J k1,kv]) K/\(((x.setCell (E g 0) (J k0)).setCell (E g 1) (J k1)).setCell (E g 2) kv).heap[g]?=some (.cells #[J k0,J k1,kv] 75 (0,0)):=by
 have h1:=b.set (i:=0) hb (by show 3<10;lia) (J k0);have b1:(x.st g 0 (J k0)).heap[g]?=some (kB k0 0 none 0 0):=by simp [World.setCell,QC,hb]
 have a:=h1.set (i:=1) b1 (by show 3<10;lia) (J k1);have b2:((x.st g 0 (J k0)).st g 1 (J k1)).heap[g]?=some (kB k0 k1 none 0 0):=by simp [World.setCell,QC,hb]
 exact⟨a.set (i:=2) b2 (by show 3<10;lia) _,by simp [World.setCell,QC,hb]⟩
def Da {X:wO} {x y:vO} {ka:Option Addr} {n kc:Nat} (h:yQ X (.agg #[x,y,.slice ka n kc]) K) (k:0<K.ops.length):∃b c,ka=some (E b c)/\b<X.heap.size/\∀i,i<K.ops.length->∀j,j<10->X.cell? (E b (c+i*10+j))=(yZ (zv K.ops i))[j]?:=by obtain⟨v,d,a,cap,f,-,-,g⟩:=h;subst f;simp only [El,Ex,W9,and_true,Value.slice.injEq] at d;obtain⟨-,-,rfl,-,-⟩:=d;exact g k
end
section
variable {w:wO} {pb:Nat} {t:Tg} {tx:Li} {x y k0 k1:Int} {L:Lp} {K:Kn} {kv:vO}
def jS (w:wO) (pb:Nat) (t:Tg) (tx:Li):Prop:=w.heap[pb]?=some (.cells #[J t.u0,J t.u1,J t.u2,J t.w0,J t.w1,J t.w2,J t.r,.string (strOfNums tx)] 29 (0,0))
def jS.gE {w':wO} (h:jS w pb t tx) (hb:Bw w w'):jS w' pb t tx:=(hb.block pb (lo h)).t h
def jS.cells {t:Tg} (h:jS w pb t tx):(w.cell? (E pb 0)=Y t.u0/\w.cell? (E pb 1)=Y t.u1/\w.cell? (E pb 2)=Y t.u2/\w.cell? (E pb 3)=Y t.w0/\w.cell? (E pb 4)=Y t.w1/\w.cell? (E pb 5)=Y t.w2/\w.cell? (E pb 6)=Y t.r)/\w.cell? (E pb 7)=some (.string (strOfNums tx))/\pb<w.heap.size:=by refine⟨⟨?_,?_,?_,?_,?_,?_,?_⟩,?_,(lo h)⟩ <;> (rw [Qa h];rfl)
def Az {z:Int} (h0:-9223372036854775808<=x) (h1:x<=9223372036854775807) (a:-9223372036854775808<=y) (b:y<=9223372036854775807) (c:-9223372036854775808<=z) (d:z<=9223372036854775807):∀i,i<[x,y,z].length->-9223372036854775808<=ak [x,y,z] i/\ak [x,y,z] i<=9223372036854775807:=fun i hi=>by
 have f:i<3:=hi
 obtain rfl | rfl | rfl:i=0\/i=1\/i=2:=oM
 ·exact⟨h0,h1⟩
 ·exact⟨a,b⟩
 ·exact⟨c,d⟩
def kZ (K:Kn) (k:Nat):Li:=(K.ops.take k).foldl (fun s o=>yV s [o.sl,o.sg,o.d]) (yV [] [K.pc,K.st])
def AA {k:Nat} (a:k<K.ops.length):kZ K (k+1)=yV (kZ K k) [(zv K.ops k).sl,(zv K.ops k).sg,(zv K.ops k).d]:=by
 unfold kZ;have h:K.ops[k]?=some (zv K.ops k):=by unfold zv;rw [Qw,Qh a];rfl
 rw [Wm,Q8,h];rfl
def Ku (K:Kn):kZ K K.ops.length=lD K:=by unfold kZ lD;rw [Wd]
def AB (h0:(yV [] [K.pc,K.st]).length<=42) (h:∀i,i<K.ops.length->(0<=(zv K.ops i).sl/\(zv K.ops i).sl<=200)/\(0<=(zv K.ops i).sg/\(zv K.ops i).sg<=1001)/\0<=(zv K.ops i).d/\(zv K.ops i).d<=128):∀k,k<=K.ops.length->(kZ K k).length<=42+63*k
 | 0,_=>h0
 | k+1,hk=>by
   rw [AA oM]
   obtain⟨b,c,f⟩:=h k oM
   have h1:=mA (s:=kZ K k) (zs:=[(zv K.ops k).sl,(zv K.ops k).sg,(zv K.ops k).d]) (Az oM oM oM oM oM oM) 3 (Qc _)
   have g:=AB h0 h k oM
   have a:([(zv K.ops k).sl,(zv K.ops k).sg,(zv K.ops k).d].take 3)=[(zv K.ops k).sl,(zv K.ops k).sg,(zv K.ops k).d]:=rfl
   rw [a] at h1
   omega
def AC (w:wO) (l:Li) (a:l.length<=1000) (hr:∀i,i<l.length->-9223372036854775808<=ak l i/\ak l i<=9223372036854775807):zM (w.alloc (.cells (l.map (Value.int .i64)).toArray 2)) (.slice (pA w.heap.size) l.length l.length) l:=by refine⟨_,_,rfl,Qc _,mL,hr,fun _=>⟨w.heap.size,0,rfl,sM,fun i hi=>?_⟩⟩;rw [QO,Qa (zm w _ _)];simp [ak,hi]
def pH:Prop:=∀(v:vO) (L:Lp) (t:Tg) (tx:Li) (pb:Nat) (n:Int) (w:wO),zI w v L->cn L->jS w pb t tx->zQ L->zS t->0<=n->n<=999999 ->
 Cp 25 #[.pointer (pA pb),v,J n] w fun e w'=>∃a,e=.returned (.string (strOfNums a))/\a.length<=10000/\Bw w w'/\if br n 0 200=false then a=ZV else ∃r,yN L t 1 r/\a=match r with
  | none=>Uu
  | some K=>ku L t K n
def Kv (hP:mC) (hE:Zj) (hB:lB) (hX:VX) (hT:pH) (t:Tg) (tx g:Li) (pb:Nat) (n:Int) (w:wO) (bP:xq w) (hV:jS w pb t tx) (ce:jR tx) (cH:tx.length<=2000000) (aG:zS t) (cB:0<=n) (cC:n<=999999) (q:g=yz\/g=yx\/g=yy\/g=yM) :
  Cp 11 #[.pointer (pA pb),.string (strOfNums g),J n] w fun e w'=>∃a,e=.returned (.string (strOfNums a))/\a.length<=10000/\Bw w w'/\UC t tx g n a:=by
 have aO:=Z (fun W q=>hP tx W q ce cH);have bY:=Z bP;clear bP;unfold Y9 at aO;have bC:=Z (tW (zx 10 tx) ⟨[],[],[]⟩ 0);have bJ:=tY tx;obtain⟨pr,aS⟩:=nm (yt tx);have bD:Hid (pr.2.1=0->zQ pr.1):=by rw [<-aS];exact bC
 have bT:=Z aS;rw [aS] at aO bJ;obtain⟨L,cd,C⟩:=pr;(try simp only at aO bJ bD);obtain⟨⟨c0,c1,c2,c3,c4,c5,c6⟩,c7,hpz⟩:=hV.cells;have HV:=Z hV;clear hV aS bC;go_enter func11,ntmps11;go_wp2_with fail;refine (aO _ bY).m ?_;rintro e v ⟨v0,v1,v2,rfl,hL,bH,aZ⟩;have HL:=Z hL;have bS:=Z bH;obtain⟨v0',v1',v2',hv,⟨a0,gA,rfl,-⟩,⟨a1,gB,rfl,-⟩,⟨a2,gC,rfl,-⟩⟩:=hL;simp only [El,Ex,W9,and_true] at hv;obtain⟨rfl,rfl,rfl⟩:=hv;have bF:=Z aZ;clear aZ bH c0 c1 c2 c3 c4 c5 c6 c7;obtain⟨p,aQ⟩:=nm ((v.alloc (lC L a0 a1 a2 gA gB gC)).alloc (.cells #[J cd,J C] 65));have aB:Hid (Bw v p):=by show Below _ _ _;rw [<-aQ];exact QB _ _ _
 have bU:Hid (p.heap.size=v.heap.size+1+1):=by show _=_;rw [<-aQ];simp
 have O:Hid (Bw w p):=bF.tm aB;have bz:Hid (p.heap[v.heap.size]?=some (lC L a0 a1 a2 gA gB gC)):=by show _=_;rw [<-aQ,Qr _ _ _ sM];exact zm _ _ _
 have bh:Hid (p.heap[v.heap.size+1]?=some (.cells #[J cd,J C] 65 (0,0))):=by show _=_;rw [<-aQ,<-World.size_alloc];exact zm _ _ _
 have ai:=Z (fun (s:Li) (zs:Li) (W:wO) (hz:zs.length<=1000) (hr:∀i,i<zs.length->-9223372036854775808<=ak zs i/\ak zs i<=9223372036854775807) (hs:s.length<=100000)=>qI s _ zs _ (AC W zs hz hr) oM oM);have ac:Hid (∀y,Bw p y->(y.cell? (E v.heap.size 0)=some (.slice a0 L.l.length gA)/\y.cell? (E v.heap.size 1)=some (.slice a1 L.b.length gB)/\y.cell? (E v.heap.size 2)=some (.slice a2 L.o.length gC))/\(y.cell? (E pb 0)=Y t.u0/\y.cell? (E pb 1)=Y t.u1/\y.cell? (E pb 2)=Y t.u2/\y.cell? (E pb 3)=Y t.w0/\y.cell? (E pb 4)=Y t.w1/\y.cell? (E pb 5)=Y t.w2/\y.cell? (E pb 6)=Y t.r)):=fun y I=>by have h1:=(I.block _ (lo bz)).t bz;have h2:=(HV.gE (O.tm I)).cells.1;refine⟨⟨?_,?_,?_⟩,h2⟩ <;> (rw [Qa h1];rfl)
 have f0:p.cell? (E (v.heap.size+1) 0)=Y cd:=cb bh
 have f1:p.cell? (E (v.heap.size+1) 1)=Y C:=cb bh
 have cI:v.heap.size+1<p.heap.size:=by have:=bU.o;omega
 have ah:Hid (∀a,UC t tx g n a↔(if cd≠0 then a=yV jl [(C:Int)]
 else if g=yz then a=yV [] [((zf L t).length:Int)]
 else if g=yx then a=yV [] [(ZL L t:Int),(xS L t:Int)]
 else if g=yy then ∃z,yN L t 1 z/\a=match z with
  | none=>Uu
  | some K=>lD K
 else if br n 0 200=false then a=ZV
 else ∃z,yN L t 1 z/\a=match z with
  | none=>Uu
  | some K=>ku L t K n)):=fun a=>by unfold UC;rw [bT];exact Iff.rfl
 by_cases U:cd=0
 ·subst U;have aF:=bD rfl;have U:¬((0:Int)≠0):=tQ
  have aT:∀c∈g,0<=c/\c<=255:=by rcases q with rfl | rfl | rfl | rfl <;> decide
  have e1:=yn aT (m:=yz) tQ (b:=[101,100,103,101,115]) rfl;have e2:=yn aT (m:=yx) tQ (b:=[98,111,117,110,100]) rfl;have e3:=yn aT (m:=yy) tQ (b:=[98,117,105,108,100]) rfl;clear aT;rcases q with q | q | q | q
  ·rw [Qi q] at e1;have M:=Z (fun a=>(ah a).2);simp only [Qe U,Qf q] at M;clear q e2 e3 f1;go_wp2_with fail;refine Qq ?_;refine zg 99 (fun w'=>(w'.cell? (E v.heap.size 0)=some (.slice a0 L.l.length gA)/\w'.cell? (E v.heap.size 1)=some (.slice a1 L.b.length gB)/\w'.cell? (E v.heap.size 2)=some (.slice a2 L.o.length gC))/\(w'.cell? (E pb 0)=Y t.u0/\w'.cell? (E pb 1)=Y t.u1/\w'.cell? (E pb 2)=Y t.u2/\w'.cell? (E pb 3)=Y t.w0/\w'.cell? (E pb 4)=Y t.w1/\w'.cell? (E pb 5)=Y t.w2/\w'.cell? (E pb 6)=Y t.r)) kR (ac _ (Qm _ _ 1)) (fun A=>?_);refine aq 0 ?_;refine aq 2 ?_;refine uk 4 ?_;refine zb (i:=5) rfl kR (fun K f=>?_);go_simp;refine (hE _ t L _ (HL.gE (aB.t (Qm _ _ 1))) (by rw [aF,aG];rfl)).m ?_;rintro e u ⟨ea,en,ec,rfl,⟨ea',cap,bL,cL,cu,-⟩,I⟩;simp only [Value.slice.injEq] at bL;obtain⟨rfl,rfl,rfl⟩:=bL;have F:Hid (Bw p u):=(Qm _ _ 1).t (show Below p.heap.size p.drew u from I);have A:=ac _ F;clear I;refine bq f (.inr A) ?_;clear f K;refine aq 6 ?_;refine aq 8 ?_;refine uk 10 ?_;refine zj kR ?_ _;refine Qs ?_;have N:=Z (lR (x:=((zf L t).length:Int)) oM (by unfold maxLen at cu;omega));have P:=Z (ai [] [((zf L t).length:Int)] u (by show 1<=1000;omega) N tQ);have aC:Hid ((yV [] [((zf L t).length:Int)]).length<=10000):=(by show _<=_;have h:=mA (s:=[]) N 1 (Qc _);exact QH h tQ);clear A;go_wp2_with fail;refine P.m ?_;rintro e S ⟨rfl,H⟩;have Q:Hid (Bw w S):=(O.tm F).t (((Qd _ _).t (H.m sM)).m (O.tm F).size);clear H;go_wp2_with fail;exact oB ⟨_,rfl,aC,Q,M _ rfl⟩
  ·rw [Qk (by rw [q];decide)] at e1;rw [Qi q] at e2;have T:¬g=yz:=(by rw [q];decide);have M:=Z (fun a=>(ah a).2);simp only [Qe U,Qe T,Qf q] at M;clear q T e3 f1;go_wp2_with fail;refine Qq ?_;refine zg 99 (fun w'=>(w'.cell? (E v.heap.size 0)=some (.slice a0 L.l.length gA)/\w'.cell? (E v.heap.size 1)=some (.slice a1 L.b.length gB)/\w'.cell? (E v.heap.size 2)=some (.slice a2 L.o.length gC))/\(w'.cell? (E pb 0)=Y t.u0/\w'.cell? (E pb 1)=Y t.u1/\w'.cell? (E pb 2)=Y t.u2/\w'.cell? (E pb 3)=Y t.w0/\w'.cell? (E pb 4)=Y t.w1/\w'.cell? (E pb 5)=Y t.w2/\w'.cell? (E pb 6)=Y t.r)) kR (ac _ (Qm _ _ 1)) (fun A=>?_);refine aq 0 ?_;refine aq 2 ?_;refine uk 4 ?_;refine zb (i:=5) rfl kR (fun K f=>?_);go_simp;refine (hB _ t L _ (HL.gE (aB.t (Qm _ _ 1))) (by rw [aF,aG];rfl)).m ?_;rintro e u ⟨rfl,I⟩;have F:Hid (Bw p u):=(Qm _ _ 1).t (show Below p.heap.size p.drew u from I);have A:=ac _ F;clear I;refine bq f (.inr A) ?_;clear f K;refine aq 6 ?_;refine aq 8 ?_;refine aq 10 ?_;refine uk 12 ?_;refine zj kR ?_ _;refine Qs ?_;obtain⟨aZ,H⟩:=tZ aF aG;have N:=Z (qA (x:=(ZL L t:Int)) (y:=(xS L t:Int)) oM oM oM oM);have P:=Z (ai [] [(ZL L t:Int),(xS L t:Int)] u (by show 2<=1000;omega) N tQ);have aC:Hid ((yV [] [(ZL L t:Int),(xS L t:Int)]).length<=10000):=(by show _<=_;have h:=mA (s:=[]) N 2 (Qc _);exact QH h tQ);clear A;go_wp2_with fail;refine P.m ?_;rintro e S ⟨rfl,H⟩;have Q:Hid (Bw w S):=(O.tm F).t (((Qd _ _).t (H.m sM)).m (O.tm F).size);clear H;go_wp2_with fail;exact oB ⟨_,rfl,aC,Q,M _ rfl⟩
  ·rw [Qk (by rw [q];decide)] at e1 e2;rw [Qi q] at e3;have T:¬g=yz:=(by rw [q];decide);have aN:¬g=yx:=(by rw [q];decide);have M:=Z (fun a=>(ah a).2);simp only [Qe U,Qe T,Qe aN,Qf q] at M;clear q T aN f1;go_wp2_with fail;refine Qq ?_;refine zg 99 (fun w'=>(w'.cell? (E v.heap.size 0)=some (.slice a0 L.l.length gA)/\w'.cell? (E v.heap.size 1)=some (.slice a1 L.b.length gB)/\w'.cell? (E v.heap.size 2)=some (.slice a2 L.o.length gC))/\(w'.cell? (E pb 0)=Y t.u0/\w'.cell? (E pb 1)=Y t.u1/\w'.cell? (E pb 2)=Y t.u2/\w'.cell? (E pb 3)=Y t.w0/\w'.cell? (E pb 4)=Y t.w1/\w'.cell? (E pb 5)=Y t.w2/\w'.cell? (E pb 6)=Y t.r)) kR (ac _ (Qm _ _ 1)) (fun A=>?_);refine aq 0 ?_;refine aq 2 ?_;refine uk 4 ?_;refine Xp (i:=5) (j:=10) rfl rfl kR (fun G f=>?a1) (fun G f=>?a2)
   case' a1 =>
    go_simp;refine (hX _ t L _ (HL.gE (aB.t (Qm _ _ 1)))).m ?_;rintro e u ⟨I,k0,k1,kv,oa,ol,oc,c,rfl,-,aj⟩;obtain⟨K,ka,kc,⟨rfl,rfl,rfl⟩,hK,D⟩:=lS (aj (by rw [aF,aG];rfl));have HK:=Z hK;have aK:=Z D;clear aj hK D;have F:Hid (Bw p u):=(Qm _ _ 1).t (show Below p.heap.size p.drew u from I);have A:=ac _ F;clear I;refine bq f (.inr A) ?_;clear f G;refine aq 6 ?_;refine aq 8 ?_;refine zb (i:=10) rfl kR (fun G f=>?_);go_simp;refine bq f (.inr (ac _ (F.tm (Qd _ _)))) ?_;clear f G;refine zb (i:=11) rfl kR (fun G f=>?_);go_simp;obtain⟨X,R⟩:=nm (u.alloc (.cells #[J K.pc,J K.st,.slice ka K.ops.length kc] 75));rw [R];have aE:Hid (Bw p X):=(by show Below _ _ _;rw [<-R];exact F.tm (Qd _ _));have bj:Hid (yQ X (.agg #[J K.pc,J K.st,.slice ka K.ops.length kc]) K):=(by show yQ _ _ _;rw [<-R];exact HK.gE (Qd _ _));have af:X.heap[u.heap.size]?=some (.cells #[J K.pc,J K.st,.slice ka K.ops.length kc] 75 (0,0)):=(by rw [<-R];exact zm _ _ _);refine f _ _ (.inr (ac _ aE)) ?_;clear f G;have A:=ac _ aE;try simp only [Act.put,Qn,Qy,Qz]
    refine aq 12 ?_;refine zj kR ?_ _;refine Qs ?_;obtain⟨kb,ag⟩:=nm u.heap.size;rw [ag] at af ⊢;have aH:=Z af;clear af ag R F HK A
   case' a2 =>
    go_simp;refine bq f (.inr (ac _ ((Qd _ _).t (Qm _ _ 1)))) ?_;clear f G;refine zb (i:=5) rfl kR (fun G f=>?_);go_simp;obtain⟨W3,aR⟩:=nm ((p.alloc (kB 0 0 none 0 0)).drew);rw [aR];have ay:Hid (Bw p W3):=(by show Below _ _ _;rw [<-aR];exact (Qd _ _).t (Qm _ _ 1));have aW:Hid (W3.heap[p.heap.size]?=some (kB 0 0 none 0 0)):=(by show _=_;rw [<-aR];exact zm _ _ _);clear aR;refine (hX _ t L _ (HL.gE (aB.tm ay))).m ?_;rintro e u ⟨I,k0,k1,kv,oa,ol,oc,c,rfl,-,aj⟩;obtain⟨K,ka,kc,⟨rfl,rfl,rfl⟩,hK,D⟩:=lS (aj (by rw [aF,aG];rfl));have HK:=Z hK;have aK:=Z D;clear aj hK D;have F:Hid (Bw p u):=ay.tm I;have aX:Hid (u.heap[p.heap.size]?=some (kB 0 0 none 0 0)):=(I.block _ (lo aW)).t aW;have A:=ac _ F;clear I;refine bq f (.inr A) ?_;clear f G;refine aq 6 ?_;refine aq 8 ?_;have aD:=aX;have c0:u.cell? (E p.heap.size 0)=Y 0:=(cb aD);have c1:u.cell? (E p.heap.size 1)=Y 0:=(cb aD);have c2:u.cell? (E p.heap.size 2)=some (.slice none 0 0):=(cb aD);have z0:u.frozen? (E p.heap.size 0)=false:=(qZ aD);have z1:u.frozen? (E p.heap.size 1)=false:=(qZ aD);have z2:u.frozen? (E p.heap.size 2)=false:=(qZ aD);clear aD;have aY:=Z (qH HK aX);refine zb (i:=11) rfl kR (fun G f=>?_);go_simp;obtain⟨X,R⟩:=nm (((u.setCell (E p.heap.size 0) (J K.pc)).setCell (E p.heap.size 1) (J K.st)).setCell (E p.heap.size 2) (.slice ka K.ops.length kc));rw [R] at aY ⊢;have aE:Hid (Bw p X):=(by show Below _ _ _;rw [<-R];exact ((F.setCell (Qc _) _).setCell (Qc _) _).setCell (Qc _) _);refine f _ _ (.inr (ac _ aE)) ?_;clear f G;have A:=ac _ aE;try simp only [Act.put,Qn,Qy,Qz]
    refine aq 12 ?_;refine zj kR ?_ _;refine Qs ?_;obtain⟨bG,af⟩:=aY.o;have bj:=Z bG;obtain⟨kb,ag⟩:=nm p.heap.size;rw [ag] at af;rw [show Value.pointer (pA p.heap.size)=Value.pointer (pA kb) by rw [ag]];have aH:=Z af;clear af ag R F HK A bG c0 c1 c2 z0 z1 z2 aY ay aW aX
   all_goals
    clear ac f0 cI
    have aV:Hid (Bw w X):=O.tm aE
    have c0:X.cell? (E kb 0)=Y K.pc:=cb aH
    have c1:X.cell? (E kb 1)=Y K.st:=cb aH
    have cA:kb<X.heap.size:=(lo aH)
    rcases aK with ⟨rfl,hS⟩ | ⟨rfl,-,hS⟩
    ·have HR:=Z (M Uu ⟨_,hS,rfl⟩)
     clear hS c0 c1
     go_wp2_with fail
     exact oB ⟨_,rfl,tQ,aV,HR⟩
    ·have HS:=Z hS
     obtain⟨bg,⟨cD,cE⟩,⟨cF,cG⟩,V⟩:=qB hS
     have aI:=Z V
     have N:=Z (qA (x:=K.pc) (y:=K.st) oM oM oM oM)
     have P:=Z (ai [] [K.pc,K.st] X (by show 2<=1000;omega) N tQ)
     have aC:Hid ((yV [] [K.pc,K.st]).length<=42):=mA (s:=[]) N 2 (Qc _)
     clear hS V
     go_wp2_with fail
     refine P.m ?_
     rintro e S ⟨rfl,H⟩
     have Q:Hid (Bw X S):=(Qd _ _).t (H.m sM)
     clear H c0 c1
     have bE:=Z (AB aC aI)
     have bZ:=Z (M (lD K) ⟨_,HS,rfl⟩)
     have cM:K.ops.length<=16:=bg
     go_wp2_with fail
     go_loopw [17,18] (fun sv iv wr=>∃k:Nat,k<=K.ops.length/\sv=.string (strOfNums (kZ K k))/\iv=J k/\Bw X wr) (fun _ iv _=>K.ops.length - (intOf iv).toNat)
     case atStart=>exact⟨0,Ql _,rfl,rfl,Q⟩
     case round =>
      obtain⟨k,hk,rfl,rfl,gH⟩:=hrel
      have HB:=Z gH
      have c2:wr.cell? (E kb 2)=some (.slice ka K.ops.length kc):=by rw [ze gH _ _ cA,Qa aH];rfl
      have cx:kb<wr.heap.size:=by have:=gH.size;omega
      by_cases hkl:k<K.ops.length
      ·have cw:(k:Int)<(K.ops.length:Int):=oM
       obtain⟨b,B,rfl,cg,gR⟩:=Da bj oM
       obtain⟨d0,d1,d2,d3,-⟩:=jP (w:=wr) (b:=b) (o:=B+k*10) (x:=zv K.ops k) (fun j hj=>(ze gH b _ cg).t (gR k hkl j hj))
       have bf:b<wr.heap.size:=by have:=gH.size;omega
       obtain⟨⟨r1,r2⟩,⟨r3,r4⟩,r5,r6⟩:=aI k hkl
       have aL:=Z (AA hkl)
       have aJ:=Z (bE k hk)
       generalize (zv K.ops k).sl=zl at d0 r1 r2 aL
       generalize (zv K.ops k).sg=lM at d1 r3 r4 aL
       generalize (zv K.ops k).d=zd at d3 r5 r6 aL
       obtain⟨pre,aM⟩:=nm (kZ K k)
       rw [aM] at aL aJ ⊢
       have N:=Z (Az (x:=zl) (y:=lM) (z:=zd) oM oM oM oM oM oM)
       have P:=Z (fun W=>ai pre [zl,lM,zd] W (by show 3<=1000;omega) N.o (by have:=aJ.o;omega))
       have aP:Hid (∀w':wO,Bw wr w'->w'.cell? (E kb 2)=some (.slice (some (E b B)) K.ops.length kc)/\w'.cell? (E b (B+k*10))=Y zl/\w'.cell? (E b (B+k*10+1))=Y lM/\w'.cell? (E b (B+k*10+3))=Y zd):=by
        intro w' h
        refine⟨?_,?_,?_,?_⟩
        ·rw [ze h _ _ cx];exact c2
        ·rw [ze h _ _ bf];exact d0
        ·rw [ze h _ _ bf];exact d1
        ·rw [ze h _ _ bf];exact d3
       clear gH gR d0 d1 d2 d3 aM r1 r2 r3 r4 r5 r6
       go_wp2_with fail
       clear c2
       refine Qq ?_
       refine zg 99 (fun w'=>w'.cell? (E kb 2)=some (.slice (some (E b B)) K.ops.length kc)/\w'.cell? (E b (B+k*10))=Y zl/\w'.cell? (E b (B+k*10+1))=Y lM/\w'.cell? (E b (B+k*10+3))=Y zd) kR (aP _ (Qm _ _ 1)) (fun A=>?_)
       refine aq 0 ?_
       refine aq 2 ?_
       refine aq 4 ?_
       refine aq 6 ?_
       refine aq 8 ?_
       refine aq 10 ?_
       refine aq 12 ?_
       refine aq 14 ?_
       refine aq 16 ?_
       refine uk 18 ?_
       refine zb (i:=19) rfl kR (fun G f=>?_)
       go_simp
       have aU:Hid (Bw wr (wr.drew.alloc (.cells #[J zl,J lM,J zd] 2))):=(Qm _ _ 1).t (show Below wr.drew.heap.size wr.drew _ from Qd _ _)
       refine bq f (.inr (aP _ aU)) ?_
       clear f G
       refine zb (i:=20) rfl kR (fun G f=>?_)
       go_simp
       refine (show Calls _ _ _ _ _ from P wr.drew).m ?_
       rintro e x3 ⟨rfl,bK⟩
       have ay:Hid (Bw wr x3):=aU.tm bK
       refine f _ _ (.inr (aP _ ay)) ?_
       clear f G bK
       have A:=aP _ ay
       try simp only [Act.put,Qn,Qy,Qz]
       refine uk 21 ?_
       refine zj kR ?_ _
       refine Qs ?_
       clear A
       go_wp2_with fail
       go_roundw
       case rel=>exact⟨k+1,oM,by rw [aL],nQ,HB.tm ay⟩
       case measure=>simp [intOf];omega
      ·have e:k=K.ops.length:=oM
       subst e
       have cw:¬(K.ops.length:Int)<(K.ops.length:Int):=oM
       have bR:=Z (Ku K)
       have aJ:=Z (bE.o _ (Qc _))
       rw [bR.o] at aJ ⊢
       clear gH
       go_wp2_with fail
       exact oB ⟨_,rfl,by have:=aJ.o;omega,aV.o.tm HB.o,bZ⟩
  rw [Qk (by rw [q];decide)] at e1 e2 e3;have T:¬g=yz:=by rw [q];decide
  have aN:¬g=yx:=by rw [q];decide
  have bQ:¬g=yy:=by rw [q];decide
  have M:=Z (fun a=>(ah a).2);simp only [Qe U,Qe T,Qe aN,Qe bQ] at M;obtain⟨⟨l0,l1,l2⟩,-⟩:=ac p (QA _ _);have bW:=Z (hT _ L t tx pb n p (HL.gE aB) bS (HV.gE O) aF aG cB cC);clear q T aN bQ f1;go_wp2_with fail;refine bW.m ?_;rintro e S ⟨a,rfl,bI,H,bO⟩;have HA:=Z bI;have Q:Hid (Bw w S):=O.tm H;have bV:=Z (M a bO);clear H bO bI;go_wp2_with fail;exact oB ⟨_,rfl,HA,Q,bV⟩
 have cJ:(cd == 0)=false:=by simp [U]
 have HR:Hid (UC t tx g n (yV jl [(C:Int)])):=(ah _).2 (by rw [Qf U]);have P:=Z (ai jl [(C:Int)] p (by show 1<=1000;omega) (lR oM oM) tQ);have aC:Hid ((yV jl [(C:Int)]).length<=10000):=by show _<=_;have h:=mA (s:=jl) (zs:=[(C:Int)]) (lR oM oM) 1 (Qc _);exact QH h tQ
 go_wp2_with fail;refine P.m ?_;rintro e S ⟨rfl,H⟩;have Q:Hid (Bw w S):=O.tm ((Qd _ _).t (H.m sM));clear H;go_wp2_with fail;exact oB ⟨_,rfl,aC,Q,HR⟩
end
end Go.Proofs.YtjlfcbccpcigeacGreatDoor
