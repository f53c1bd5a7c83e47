import Derived.Test.YtjlfcbccpcigeacGreatDoorK
import Derived.Test.YtjlfcbccpcigeacGreatDoorO
set_option maxHeartbeats 40000000
set_option linter.defProp false
namespace Go.Proofs.YtjlfcbccpcigeacGreatDoor
open Go.Proofs.Tryz Go.RowKit Go.Joins
set_option linter.unusedVariables false
set_option linter.unusedSimpArgs false
set_option maxRecDepth 8192
def ya5:Prop:=∀(s:List Int) (w:World),xq w->By s->s.length<=1100000->Calls Tryz.prog 7 #[.string (strOfNums s)] w fun e w'=>∃a,e=.returned (.string (strOfNums a))/\Vx s a/\a.length<=600060/\Bw w w'
def yd9:Vx [63] [63,10]:=by
 have c:zx 10 [63]=[[63]]:=by simp [zx]
 have a:zgu [63]=[[63]]:=by grind [zgu,Vh]
 have b:zx 32 [63]=[[63]]:=by simp [zx]
 unfold Vx;rw [a];refine⟨ZV,t0D,[],[],?_,rfl,rfl⟩;unfold Z7;rw [Qe (by decide),Qe (by decide),b];show (if _ then _ else if _ then _ else if _ then _ else _);rw [Qe (by decide),Qe (by decide),Qe (by decide)];grind
def driveOn_any (o:ya5) (a b:List Int) (w:World) (A:xq w) (v:By a) (hb:By b) (Q:a.length+b.length<=1048576) :
  Calls Tryz.prog 4 #[.string (strOfNums a),.string (strOfNums b)] w (Rt w (.bool true)):=by
 have K:¬9223372036854775807<(strOfNums a).size+1:=by rw [strOfNums_size];omega
 have H:strOfNums a++{ data:=#[10] }=strOfNums (a++[10]):=zv3 a [10];have L:¬9223372036854775807<(strOfNums (a++[10])).size+(strOfNums b).size:=by rw [strOfNums_size,strOfNums_size,Qt];grind
 have f:a++[10]++b=a++10 :: b:=by simp
 have I:strOfNums (a++[10])++strOfNums b=strOfNums (a++10 :: b):=(zv3 _ _).trans (by rw [f]);have j:By (a++[10]):=fun c g=>by
  rcases QK.1 g with h | h
  ·exact v c h
  grind
 have O:=Z (fun W d=>o (a++[10]) W d j (by simp;omega));have P:=Z (fun W d=>o (a++10 :: b) W d (by rw [<-f];exact fun c g=>(QK.1 g).elim (j c) (hb c)) (by simp;omega));have G:=Z (fun W d=>o [63] W d (fun c g=>by grind) (by simp_all));have N:Hid (∀x y,Vx (a++[10]) x->Vx (a++10 :: b) y->∃c,y=x++c):=fun x y h k=>h.on (by rw [f];exact k);have i:=Z A;clear A v hb j Q f;go_enter Tryz.func4,Tryz.ntmps4;go_wp2_with fail;refine (O _ i).mono ?_;rintro e w1 ⟨x,rfl,B,t,q⟩;have n:=Z q;have F:=Z B;have T:=Z t;clear q B t;go_wp2_with fail;refine (P _ (i.on n)).mono ?_;rintro e w2 ⟨y,rfl,C,u,r⟩;have p:=Z (n.trans (r.mono n.size));obtain⟨c,rfl⟩:=N x y F C;clear r C;go_wp2_with fail;refine (G _ (i.on p)).mono ?_;rintro e w3 ⟨z,rfl,D,-,s⟩;have M:=Z (p.tm s);obtain rfl:=D.unique yd9;have V:((strOfNums [63,10]).toList == [63,10])=true:=(yn (l:=[63,10]) (m:=[63,10]) (by decide) (by decide) (b:=[63,10]) rfl).trans rfl;have X:(strOfNums (x++c)).size=x.length+c.length:=by rw [strOfNums_size,Qt]
 have e3:(strOfNums x).size=x.length:=strOfNums_size x;have e4:(strOfNums (x++c)).extract 0 x.length=strOfNums x:=by rw [zpt];simp
 have U:(x.length:Int)<=((x.length+c.length:Nat):Int):=by omega
 have R:(x.length:Int)<=(x.length:Int)+(c.length:Int):=by omega
 have S:x.length+c.length<=600060:=by rw [<-Qt];exact u
 clear s D u H I K L;go_wp2;go_ret;exact⟨by simp,M⟩
section
variable {v v':Value} {w':World} {e T:TypeId} {n o B b:Nat} {xs:List Value} {ops:Array Oper} {rest:List Oper} {a:Act} {Q:Exit->Act->World->Prop} {cs:Array Value} {l:List Int}
theorem zk8 {u:Value} {w:World} (h:w'.ownsRowF w.heap.size e 1 v n xs):zh2 u v w:=by
 intro g a;rcases h.2 with ⟨rfl,_⟩ | ⟨c,cap,b,d,rfl,hb,_⟩
 ·cases a
 have:c=g:=by simpa [Value.ownBlock] using a
 omega
section
variable {P:Program} (w:World)
def yc2 (base:Nat) (t u c e:TypeId) (i:TypeInfo) (j:P.underlying t=some (.slice e)) (l:P.underlying u=some .string) (hi:P.info? e=some i) (p:i.zero=some (.int .u8 0)) (m:i.size=1) (o:i.bytes=1) (v:Value) (n:Nat) (xs:List Value) (b:w.ownsRowF base e 1 v n xs) (s:ByteArray) (r:n+s.size<=maxLen) (q:n+s.size<=140737488355328) (h:(Builtin.append_ #[t,u] c #[v,.string s]).run P w=.ok v' w'):zh2 v v' w:=by
 rcases b.2 with ⟨rfl,rfl⟩ | ⟨g,cap,d,x,rfl,z,y,D,A,F,G,C⟩
 ·obtain⟨H,w1,r1,r2,-⟩:=Lib.run_append_own_stringF (P:=P) w w.heap.size t u c e i j l hi p m o (.slice none 0 0) 0 xs ⟨b.1,.inl ⟨rfl,rfl⟩⟩ s r q (Qc _);grind [zk8]
 have B:xs.length=n:=by simpa using b.1
 by_cases a:n+s.size<=cap
 ·rw [Lib.run_append_room_stringF (P:=P) w t u c e i j l hi m g n cap d x y (by omega) s a (by omega)] at h;injection h with e1 e2;subst e1;exact fun k f=>.inl f
 rw [Lib.run_append_grow_string (P:=P) w t u c e i (.int .u8 0) j l hi p (E g 0) n cap xs (by simp_all) (b.cells (g:=g) rfl) s (by omega) (by omega) (by rw [o];exact growslice_fits (by omega) (by omega))] at h;injection h with e1 e2;subst e1;intro k f;have:w.heap.size=k:=by simpa [Value.ownBlock] using f
 omega
def yc1 (base:Nat) (t o e:TypeId) (i:TypeInfo) (z:Value) (bytes:Nat) (s:P.underlying t=some (.slice e)) (hi:P.info? e=some i) (B:i.zero=some z) (f:i.size=1) (A:i.bytes=bytes) (C:z.cells.size=1) (v:Value) (n:Nat) (xs:List Value) (l:w.ownsRowF base e 1 v n xs) (a:Addr) (m c:Nat) (b:List Value) (O:b.length=m) (p:∀j u,b[j]?=some u->w.cell? (a.add j)=some u) (h1:∀u∈b,u.oneCell'=true) (y:n+m<=maxLen) (x:(n+m)*bytes<=140737488355328) (h:(Builtin.append_ #[t,t] o #[v,.slice (some a) m c]).run P w=.ok v' w'):zh2 v v' w:=by
 rcases l.2 with ⟨rfl,rfl⟩ | ⟨g,cap,q,F,rfl,H,G,D,I,M,N,L⟩
 ·obtain⟨Q,w1,r1,r2,-⟩:=run_append_ownF (P:=P) w w.heap.size t o e i z 1 bytes s hi B f A C (by omega) (.slice none 0 0) 0 xs ⟨l.1,.inl ⟨rfl,rfl⟩⟩ a m c b (by omega) p h1 y x (Qc _);grind [zk8]
 have K:xs.length=n:=by simpa using l.1
 by_cases d:n+m<=cap
 ·rw [run_append_roomF (P:=P) w t o e i s hi g n cap q F G (by rw [f];exact D) a m c b (by rw [f];omega) p h1 d (by rw [f];omega)] at h;injection h with e1 e2;subst e1;exact fun k r=>.inl r
 rw [run_append_grow (P:=P) w t o e i z s hi B (E g 0) n cap xs (by rw [f];omega) (l.cells (g:=g) rfl) a m c b (by rw [f];omega) p (by omega) (by simp only [maxLen] at y;omega) (by rw [A];exact growslice_fits (by omega) x)] at h;injection h with e1 e2;subst e1;intro k r;have:w.heap.size=k:=by simpa [Value.ownBlock] using r
 omega
def ztq {o:Oper} (m:o.guard=none) (sl x:Operand) (t u:TypeId) (A:o.op=.call { callee:=.builtin .append,args:=#[sl,x],argTypes:=#[t,u] }) (base:Nat) (e:TypeId) (i:TypeInfo) (j:P.underlying t=some (.slice e)) (k:P.underlying u=some .string) (hi:P.info? e=some i) (l:i.zero=some (.int .u8 0)) (b:i.size=1) (f:i.bytes=1) (v:Value) (n:Nat) (xs:List Value) (hs:a.eval sl=v) (g:w.ownsRowF base e 1 v n xs) (s:ByteArray) (B:a.eval x=.string s) (d:n+s.size<=maxLen) (c:n+s.size<=140737488355328) (p:base<=w.heap.size)
  (h:∀v' w',w'.ownsRowF base e 1 v' (n+s.size) (xs++Lib.strCells s)->w.grownBy w' v.ownBlock->zh2 v v' w->wpList P ops Q rest (a.put o.dst v') w'):wpList P ops Q (o :: rest) a w:=by refine wpList_plain m fun K z=>?_;obtain⟨v',w',hr,q,r,-⟩:=Lib.run_append_own_stringF (P:=P) w base t u o.type e i j k hi l b f v n xs g s d c p;have y:=yc2 w base t u o.type e i j k hi l b f v n xs g s d c hr;unfold Oper.wp execOp;simp only [A,resolve,invoke,builtin,Sem.run_bind,Sem.run_pure,Result.andThen_ok,List.map_toArray,Ef,E1,hs,B,hr];exact z _ _ (h v' w' q r y)
def ztp {o:Oper} (A:o.guard=none) (s x:Operand) (t:TypeId) (I:o.op=.call { callee:=.builtin .append,args:=#[s,x],argTypes:=#[t,t] }) (base:Nat) (e:TypeId) (i:TypeInfo) (z:Value) (bytes:Nat) (r:P.underlying t=some (.slice e)) (hi:P.info? e=some i) (y:i.zero=some z) (f:i.size=1) (p:i.bytes=bytes) (d:z.cells.size=1) (v:Value) (n:Nat) (xs:List Value) (hs:a.eval s=v) (q:w.ownsRowF base e 1 v n xs) (E:Addr) (m c:Nat) (b:List Value) (L:a.eval x=.slice (some E) m c) (H:b.length=m) (k:∀j u,b[j]?=some u->w.cell? (E.add j)=some u) (h1:∀u∈b,u.oneCell'=true) (l:n+m<=maxLen) (g:(n+m)*bytes<=140737488355328) (B:base<=w.heap.size)
  (h:∀v' w',w'.ownsRowF base e 1 v' (n+m) (xs++b)->w.grownBy w' v.ownBlock->zh2 v v' w->wpList P ops Q rest (a.put o.dst v') w'):wpList P ops Q (o :: rest) a w:=by refine wpList_plain A fun K G=>?_;obtain⟨v',w',hr,C,D,-⟩:=run_append_ownF (P:=P) w base t o.type e i z 1 bytes r hi y f p d (by omega) v n xs q E m c b (by omega) k h1 l g B;have F:=yc1 w base t o.type e i z bytes r hi y f p d v n xs q E m c b H k h1 l g hr;unfold Oper.wp execOp;simp only [I,resolve,invoke,builtin,Sem.run_bind,Sem.run_pure,Result.andThen_ok,List.map_toArray,Ef,E1,hs,L,hr];exact G _ _ (h v' w' C D F)
end
def Tryz.iby8:(prog.info? 5).map (fun i=>(i.zero,i.size,i.bytes))=some (some (.int .u8 0),1,1):=by kernel_rfl
def Tryz.ibd8:(prog.info? 43).map (fun i=>(i.zero,i.size,i.bytes))=some (some (.agg #[.pointer none,.slice none 0 0]),2,32):=by kernel_rfl
structure BdA (B b o:Nat) (T:TypeId) (cs:Array Value) (v:Value) (l:List Int) (w:World):Prop where
 hT:(T=45/\o=7/\cs.size=9)\/(T=43/\o=0/\cs.size=2)
 hb:w.heap[b]?=some (.cells cs T (0,0))
 hB:B<=b
 h0:cs[o]?=some (.pointer none)\/cs[o]?=some (.pointer (some (E b o)))
 h1:cs[o+1]?=some v
 own:w.ownsRowF B 5 1 v l.length (Lib.byteCells (b8 l))
def zat {w:World} (hb:w.heap[b]?=some (.cells cs T (0,0))) (h:w.ownsRowF B e 1 v n xs) (hT:T≠e):v.ownBlock≠some b:=by
 intro a;rcases h.2 with ⟨rfl,_⟩ | ⟨d,cap,c,f,rfl,_,g,_⟩
 ·cases a
 have:d=b:=by simpa [Value.ownBlock] using a
 simp_all
def BdA.ne {w:World} (h:BdA B b o T cs v l w):v.ownBlock≠some b:=zat h.hb h.own (by rcases h.hT with ⟨h,_⟩ | ⟨h,_⟩ <;> (rw [h];decide))
def ptr (b o:Nat):Value:=.pointer (some (E b o))
def yah (w:World) (h:BdA B b o T cs v l w) :
  Calls prog 27 #[.pointer (some (E b o))] w fun e w'=>e=.returned (.tuple #[])/\BdA B b o T (cs.setIfInBounds o (ptr b o)) v l w'/\w'.cell? (E b o)=some (ptr b o)/\Kp b v v w w'/\w'.heap.size=w.heap.size:=by
 obtain⟨j,f,D,C,F⟩:=info_parts Tryz.ibd8;have G:o+1<cs.size:=by rcases h.hT with ⟨_,h1,a⟩ | ⟨_,h1,a⟩ <;> omega
 have n:w.shape? b=some (T,cs.size):=by simp [World.shape?,h.hb]
 have H:w.frozen? (E b o)=false:=Lib.frozen_of_heap h.hb o;rcases h.h0 with h0 | h0
 ·have p:w.cell? (E b o)=some (.pointer none):=(Qa h.hb o).trans h0;have u:liesAt prog prog.depth T (cs.size / prog.cellsOf T) o 43 1=true:=by rcases h.hT with ⟨rfl,rfl,a⟩ | ⟨rfl,rfl,a⟩ <;> (rw [a];kernel_rfl)
  have c:Hid (BdA B b o T (cs.setIfInBounds o (ptr b o)) v l (w.setCell (E b o) (ptr b o))/\(w.setCell (E b o) (ptr b o)).cell? (E b o)=some (ptr b o)/\Kp b v v w (w.setCell (E b o) (ptr b o))/\(w.setCell (E b o) (ptr b o)).heap.size=w.heap.size):=by have q:=Yc (i:=o) (v:=ptr b o) h.hb;have s:(cs.setIfInBounds o (ptr b o))[o]?=some (ptr b o):=(by grind);have t:∀k,k≠b->(w.setCell (E b o) (ptr b o)).heap[k]?=w.heap[k]?:=fun k m=>Qj _ _ _ _ m;refine⟨⟨by simpa using h.hT,q,h.hB,.inr s,by rw [Q1,Qe (by omega)];exact h.h1,?_⟩,(Qa q o).trans s,⟨rfl,rfl,rfl,by simp [World.setCell],fun k _ m _=>t k m,fun _ h=>.inl h⟩,by simp [World.setCell]⟩;obtain⟨A,hr⟩:=h.own;refine⟨A,hr.imp id ?_⟩;rintro ⟨g,cap,d,x,rfl,y,z,r⟩;exact⟨g,cap,d,x,rfl,y,by rw [t g (fun e=>h.ne (by rw [<-e];rfl))];exact z,r⟩
  clear h h0;go_enter func27,ntmps27;go_wp2;rw [Lib.run_to_unsafe w (E b o) underlying40 underlying128 f (by omega) n (by grind)];simp only [Result.andThen];rw [Oper.upon_value];go_wp2;rw [run_callFunc_extern func61 (by kernel_rfl) (by kernel_rfl) (by kernel_rfl) (e:=Extern.AbiNoEscape.same) (by kernel_rfl)];rw [Lib.run_noEscape];simp only [Result.andThen];rw [Oper.upon_value];go_wp2;rw [Lib.run_from_unsafe w (E b o) underlying128 underlying40 f n u];simp only [Result.andThen];rw [Oper.upon_value];go_wp2;go_end0;exact⟨rfl,c⟩
 have p:w.cell? (E b o)=some (.pointer (some (E b o))):=(Qa h.hb o).trans h0;have c:Hid (BdA B b o T (cs.setIfInBounds o (ptr b o)) v l w):=by
  have e:cs.setIfInBounds o (ptr b o)=cs:=by
   apply Array.ext_getElem?;intro i;rw [Q1];split
   ·rename_i e;subst e;rw [Qf (by omega),h0];rfl
   rfl
  show BdA _ _ _ _ _ _ _ _;rw [e];exact h
 clear h h0;go_enter func27,ntmps27;go_wp2;rw [Lib.run_neq_ptr_same w _ underlying40 f];go_wp2;go_end0;exact⟨rfl,c,p,Kp.refl _ _ _,rfl⟩
def ygy {w:World} (h:w.ownsRowF B e 1 v n xs):∀k,v.ownBlock=some k->B<=k:=fun k a=>by
 rcases h.2 with ⟨rfl,_⟩ | ⟨c,cap,b,d,rfl,f,_⟩
 ·cases a
 ·have:c=k:=by simpa [Value.ownBlock] using a
  omega
def XI {w:World} (h:w.ownsRowF B e 1 v n xs):∃a c,v=.slice a n c:=by
 rcases h.2 with ⟨rfl,rfl⟩ | ⟨f,cap,b,d,rfl,_⟩
 ·exact⟨_,_,rfl⟩
 exact⟨_,_,rfl⟩
def BdA.put {m:List Int} {w w2:World} (h:BdA B b o T cs v l w) (A:cs[o]?=some (ptr b o)) (p:w2.ownsRowF B 5 1 v' m.length (Lib.byteCells (b8 m))) (a:w.grownBy w2 v.ownBlock) (hn:zh2 v v' w) :
  BdA B b o T (cs.setIfInBounds (o+1) v') v' m (w2.setCell (E b (o+1)) v')/\Kp b v v' w (w2.setCell (E b (o+1)) v'):=by
 have q:b<w.heap.size:=(lo h.hb);have j:w2.heap[b]?=some (.cells cs T (0,0)):=(a.block b q (fun e=>h.ne e.symm)).trans h.hb;have t:=Yc (i:=o+1) (v:=v') j;have D:o+1<cs.size:=by rcases h.hT with ⟨_,h1,x⟩ | ⟨_,h1,x⟩ <;> omega
 have n:∀k,k≠b->(w2.setCell (E b (o+1)) v').heap[k]?=w2.heap[k]?:=fun k d=>Qj _ _ _ _ d;have s:=zat j p (by rcases h.hT with ⟨h,_⟩ | ⟨h,_⟩ <;> (rw [h];decide));refine⟨⟨by simpa using h.hT,t,h.hB,.inr ?_,?_,?_⟩,⟨a.os,a.tape,a.output,QH a.size (by simp [World.setCell]),fun k d f C=>(n k f).trans (a.block k d fun e=>C e.symm),hn⟩⟩
 ·rw [Q1,Qe (by omega)];exact A
 ·grind
 obtain⟨z,hr⟩:=p;refine⟨z,hr.imp id ?_⟩;rintro ⟨g,cap,c,u,rfl,a,y,r⟩;exact⟨g,cap,c,u,rfl,a,by rw [n g (fun e=>s (by rw [<-e];rfl))];exact y,r⟩
def BdP (B b o:Nat) (T:TypeId) (cs:Array Value) (v:Value) (m:List Int) (w w':World):Prop:=∃v',BdA B b o T ((cs.setIfInBounds o (ptr b o)).setIfInBounds (o+1) v') v' m w'/\Kp b v v' w w'
def yev (m:List Int) (w:World) (h:BdA B b o T cs v l w) (hB:B<=w.heap.size) (O:l.length<=10000000) (hm:m.length<=10000000) :
  Calls prog 13 #[.pointer (some (E b o)),.string (strOfNums m)] w fun e w'=>e=.returned (.tuple #[J m.length,.nilIface])/\BdP B b o T cs v (l++m) w w':=by
 obtain⟨K,hi,D,F,G⟩:=info_parts Tryz.iby8;have t:=Z (yah w h);have c:(strOfNums m).size=m.length:=strOfNums_size m;obtain⟨S,hS⟩:=nm (strOfNums m);have A:Hid (Lib.strCells S=Lib.byteCells (b8 m)):=by show _=_;rw [<-hS,Lib.strCells_eq,yP]
 rw [hS] at c ⊢;have d:=Z c;rw [<-c];clear h hS c;go_enter func13,ntmps13;go_wp2_with fail;refine t.mono ?_;rintro e w1 ⟨rfl,h1,r,s,H⟩;have L:w1.cell? (E b (o+1))=some v:=(Qa h1.hb (o+1)).trans h1.h1;have p:=Z h1;have z:Hid ((cs.setIfInBounds o (ptr b o))[o]?=some (ptr b o)):=(Qa h1.hb o).symm.trans r;have y:=Z s;obtain⟨i,k,rfl⟩:=XI h1.own;have x:Hid (∀w2,w1.grownBy w2 (Value.slice i l.length k).ownBlock->w2.cell? (E b (o+1))=some (.slice i l.length k)/\w2.frozen? (E b (o+1))=false):=fun w2 I=>by have q:=(I.block b (lo h1.hb) (fun e=>h1.ne e.symm)).trans h1.hb;exact⟨(Qa q (o+1)).trans h1.h1,Lib.frozen_of_heap q _⟩
 have C:Hid (B<=w1.heap.size):=by show _<=_;omega
 clear h1 s H r;go_wp2_with (at_builtin;refine ztq _ rfl (.tmp 12) (.tmp 13) 41 9 rfl B 5 K underlying41 underlying9 hi D F G _ _ _ rfl p.own S rfl ?c3 ?c4 C ?_)
 case c3=>have:=d.out;unfold maxLen;omega
 case c4=>have:=d.out;omega
 intro v' w2 f g a;obtain⟨M,N⟩:=x w2 g;obtain⟨j,n,rfl⟩:=XI f;have u:Hid (BdP B b o T cs (.slice i l.length k) (l++m) w (w2.setCell (E b (o+1)) (.slice j (l.length+S.size) n))):=by have:=p.put (m:=l++m) z (by rw [Qt,zfx,Lib.byteCells_append,<-d,<-A];exact f) g a;exact⟨_,this.1,y.trans this.2⟩
 clear f g a;go_wp2;go_ret2;exact⟨rfl,u⟩
def yeu (w:World) (h:BdA B b o T cs v l w) (hB:B<=w.heap.size) (Q:l.length<=10000000) :
  Calls prog 16 #[.pointer (some (E b o)),.int .u8 10] w fun e w'=>e=.returned .nilIface/\BdP B b o T cs v (l++[10]) w w':=by
 obtain⟨M,hi,F,G,H⟩:=info_parts Tryz.iby8;have x:=Z (yah w h);clear h;go_enter func16,ntmps16;go_wp2_with fail;refine x.mono ?_;rintro e w0 ⟨rfl,h0,t,r,K⟩;have N:w0.cell? (E b (o+1))=some v:=(Qa h0.hb (o+1)).trans h0.h1;have c:Bw w0 (w0.alloc (.cells #[.int .u8 10] 5)):=Qd _ _;have h1:BdA B b o T (cs.setIfInBounds o (ptr b o)) v l (w0.alloc (.cells #[.int .u8 10] 5)):={ h0 with hb:=(c.block b (lo h0.hb)).trans h0.hb,own:=ydu c h0.own };have q:=Z h1;have C:Hid ((cs.setIfInBounds o (ptr b o))[o]?=some (ptr b o)):=(Qa h0.hb o).symm.trans t;have A:=Z (r.trans (Kp.of_below (b:=b) (u:=v) c));obtain⟨i,n,rfl⟩:=XI h1.own;have z:Hid (∀w2,(w0.alloc (.cells #[.int .u8 10] 5)).grownBy w2 (Value.slice i l.length n).ownBlock->w2.cell? (E b (o+1))=some (.slice i l.length n)/\w2.frozen? (E b (o+1))=false):=fun w2 L=>by have s:=(L.block b (lo h1.hb) (fun e=>h1.ne e.symm)).trans h1.hb;exact⟨(Qa s (o+1)).trans h1.h1,Lib.frozen_of_heap s _⟩
 have D:Hid (B<=(w0.alloc (.cells #[.int .u8 10] 5)).heap.size):=by show _<=_;have:=c.size;omega
 have I:Hid (∀(j:Nat) (u:Value),[Value.int .u8 10][j]?=some u->(w0.alloc (.cells #[.int .u8 10] 5)).cell? (((E w0.heap.size 0):Addr).add j)=some u):=fun j u d=>by
  cases j with
  | zero =>have e:Value.int .u8 10=u:=(by simpa using d);subst e;exact (Qa (zm w0 _ _) 0).trans rfl
  | succ j=>simp at d
 clear h0 h1 r K t c;go_wp2_with (at_builtin;refine ztp _ rfl (.tmp 11) (.tmp 13) 41 rfl B 5 M (.int .u8 0) 1 underlying41 hi F G H rfl _ _ _ rfl q.own (E w0.heap.size 0) 1 1 [.int .u8 10] rfl rfl I (by intro u d;simp at d;subst d;rfl) (by unfold maxLen;omega) (by omega) D ?_);intro v' w2 f g a;obtain⟨O,P⟩:=z w2 g;obtain⟨k,p,rfl⟩:=XI f;have y:Hid (BdP B b o T cs (.slice i l.length n) (l++[10]) w (w2.setCell (E b (o+1)) (.slice k (l.length+1) p))):=by have:=q.put (m:=l++[10]) C (by rw [Qt,zfx,Lib.byteCells_append];exact f) g a;exact⟨_,this.1,A.trans this.2⟩
 clear f g a;go_wp2;go_ret;exact⟨rfl,y⟩
def yge (w:World) (h:BdA B b o T cs v l w) :
  Calls prog 67 #[.pointer (some (E b o))] w fun e w'=>e=.returned (J l.length)/\w'=w:=by obtain⟨a,c,rfl⟩:=XI h.own;have d:w.cell? (E b (o+1))=some (.slice a l.length c):=(Qa h.hb (o+1)).trans h.h1;clear h;go_enter func67,ntmps67;go_wp2;go_ret;exact⟨rfl,rfl⟩
def zyn (w:World) (h:BdA B b o T cs v l w) :
  Calls prog 70 #[.pointer (some (E b o))] w fun e w'=>e=.returned (.tuple #[])/\BdA B b o T ((cs.setIfInBounds o (.pointer none)).setIfInBounds (o+1) (.slice none 0 0)) (.slice none 0 0) [] w'/\Kp b v (.slice none 0 0) w w':=by
 have m:o+1<cs.size:=by rcases h.hT with ⟨_,h1,f⟩ | ⟨_,h1,f⟩ <;> omega
 obtain⟨p,n⟩:∃p,w.cell? (E b o)=some p:=by rcases h.h0 with h0 | h0 <;> exact⟨_,(Qa h.hb o).trans h0⟩
 have q:w.cell? (E b (o+1))=some v:=(Qa h.hb (o+1)).trans h.h1;have r:w.frozen? (E b o)=false:=Lib.frozen_of_heap h.hb o;have s:w.frozen? (E b (o+1))=false:=Lib.frozen_of_heap h.hb (o+1);have c:Hid (BdA B b o T ((cs.setIfInBounds o (.pointer none)).setIfInBounds (o+1) (.slice none 0 0)) (.slice none 0 0) [] ((w.setCell (E b o) (.pointer none)).setCell (E b (o+1)) (.slice none 0 0))/\Kp b v (.slice none 0 0) w ((w.setCell (E b o) (.pointer none)).setCell (E b (o+1)) (.slice none 0 0))):=by
  have d:=Yc (i:=o+1) (v:=.slice none 0 0) (Yc (i:=o) (v:=.pointer none) h.hb);refine⟨⟨by simpa using h.hT,d,h.hB,.inl ?_,?_,⟨rfl,.inl ⟨rfl,rfl⟩⟩⟩,⟨rfl,rfl,rfl,by simp [World.setCell],fun k _ a _=>(Qj _ _ _ _ a).trans (Qj _ _ _ _ a),fun g j=>by cases j⟩⟩
  ·grind
  simp_all
 clear h;go_enter func70,ntmps70;go_wp2;go_end0;exact⟨rfl,c⟩
def zv4 (w:World) (h:BdA B b o T cs v l w) (hn:l=[]->v=.slice none 0 0) (I:l.length<=10000000) :
  Calls prog 17 #[.pointer (some (E b o))] w fun e w'=>e=.returned (.string (strOfNums l))/\BdA B b o T cs v l w'/\Kp b v v w w'/\w'.heap.size=w.heap.size:=by
 by_cases h0:l=[]
 ·have m:=hn h0;subst m h0;have A:∀W,(Builtin.unsafeString_ #[92,3] 9 #[.pointer none,J 0]).run prog W=.ok (.string ⟨#[]⟩) W:=fun W=>rfl;have H:w.drew.cell? (E b (o+1))=some (.slice none 0 0):=(Qa (w:=w.drew) h.hb (o+1)).trans h.h1;have z:(Builtin.unsafeSliceData_ #[41] 92 #[.slice none 0 0]).run prog w.drew=.ok (.pointer none) w.drew:=rfl;have f:Hid (BdA B b o T cs (.slice none 0 0) [] w.drew/\Kp b (.slice none 0 0) (.slice none 0 0) w w.drew/\w.drew.heap.size=w.heap.size):=⟨{ h with hb:=h.hb,own:=h.own },⟨rfl,rfl,rfl,Qc _,fun _ _ _ _=>rfl,fun _ h=>.inl h⟩,rfl⟩;clear h hn I;go_enter func17,ntmps17;go_wp2;go_region;all_goals (go_wp2;go_ret;exact⟨rfl,f⟩)
 have M:l.length≠0:=by simpa using h0
 have d:=h.own;obtain⟨g,cap,a,c,rfl,u,t,N,y,G,s,q⟩:∃g cap a c,v=.slice (pA g) l.length cap/\B<=g/\w.heap[g]?=some (.cells a 5 c)/\c.2<=l.length*1/\l.length<=cap/\cap<=maxLen/\a.size=cap*1/\a.toList.take (l.length*1)=Lib.byteCells (b8 l):=by
  rcases d.2 with ⟨_,Q⟩ | ⟨g,cap,a,c,m,r⟩
  ·omega
  exact⟨g,cap,a,c,m,r⟩
 have H:w.drew.cell? (E b (o+1))=some (.slice (pA g) l.length cap):=(Qa (w:=w.drew) h.hb (o+1)).trans h.h1;have z:(Builtin.unsafeSliceData_ #[41] 92 #[.slice (pA g) l.length cap]).run prog w.drew=.ok (.pointer (pA g)) w.drew:=Lib.run_unsafeSliceData_row _ _ _ _ _ _ (by omega);have F:b8 l≠[]:=fun e=>h0 (List.map_eq_nil_iff.1 e);have A:(Builtin.unsafeString_ #[92,3] 9 #[.pointer (pA g),J l.length]).run prog w.drew=.ok (.string (strOfNums l)) (w.drew.freeze (E g 0) l.length):=by have:=Lib.run_unsafeString_row (P:=prog) w.drew 92 3 9 5 underlying92 (by kernel_rfl) g a.size (by have n:w.drew.heap[g]?=some (.cells a 5 c):=t;simp [World.shape?,n]) (b8 l) F (by rw [UE];omega) (by grind [UE]) (fun j x L=>d.cells (g:=g) rfl j (.int .u8 x.toNat) (by simp [Lib.byteCells,L]));rw [UE] at this;exact this
 have D:g≠b:=fun e=>h.ne (by rw [<-e];rfl);have C:(w.drew.freeze (E g 0) l.length).heap.size=w.heap.size:=by
  unfold World.freeze;split
  ·rfl
  simp
 have p:∀k,k≠g->(w.drew.freeze (E g 0) l.length).heap[k]?=w.heap[k]?:=fun k O=>by
  unfold World.freeze;split
  ·rfl
  simp only [QC];rw [Qe (by omega)];rfl
 have f:Hid (BdA B b o T cs (.slice (pA g) l.length cap) l (w.drew.freeze (E g 0) l.length)/\Kp b (.slice (pA g) l.length cap) (.slice (pA g) l.length cap) w (w.drew.freeze (E g 0) l.length)/\(w.drew.freeze (E g 0) l.length).heap.size=w.heap.size):=by
  have i:(w.drew.freeze (E g 0) l.length).os=w.os/\(w.drew.freeze (E g 0) l.length).tape=w.tape/\(w.drew.freeze (E g 0) l.length).output=w.output:=by unfold World.freeze;split <;> exact⟨rfl,rfl,rfl⟩
  refine⟨{ h with hb:=(p b (Ne.symm D)).trans h.hb,own:=?_ },⟨i.1,i.2.1,i.2.2,by omega,fun k _ _ K=>p k (fun e=>K (by rw [e];rfl)),fun _ h=>.inl h⟩,C⟩;obtain⟨lo,hi⟩:=c;refine⟨d.1,.inr ⟨g,cap,a,if lo == hi then (0,0+l.length) else (min lo 0,max hi (0+l.length)),rfl,u,?_,?_,y,G,s,q⟩⟩
  ·have n:w.drew.heap[g]?=some (.cells a 5 (lo,hi)):=t;unfold World.freeze;grind
  simp_all
 clear h hn d q s;go_enter func17,ntmps17;go_wp2;go_region;all_goals (go_wp2;go_ret;exact⟨rfl,f⟩)
end
section
variable {x k0 k1:Int} {L:Lp} {t:Tg} {K:Kn} {kv:Value}
def zu8:∀(a:List (List Int)) (L:Lp) (k:Nat),(goD L a k).2.1=0->zQ (goD L a k).1=true
 | [],L,k,h=>by cases h
 | [l],L,k,h=>by
   grind [goD]
 | p :: q :: c,L,k,h=>by
   unfold goD at h ⊢
   cases e:YS L (zx 32 p) with
   | none=>rw [e] at h;cases h
   | some b=>rw [e] at h;exact zu8 (q :: c) b (k+1) h
theorem yi5:∀(a:List (List Int)) (L:Lp) (k:Nat),(goD L a k).2.2<=k+a.length
 | [],L,k=>by show k<=_;omega
 | [l],L,k=>by
   grind [goD]
 | p :: q :: c,L,k=>by
   unfold goD
   cases e:YS L (zx 32 p) with
   | none=>show k<=_;omega
   | some b=>have:=yi5 (q :: c) b (k+1);simp only [Q5] at this ⊢;omega
theorem zkx (x:Int):∀s:List Int,(zx x s).length<=s.length+1
 | []=>Qc _
 | c :: s=>by
   have ih:=zkx x s
   grind [zx]
def zoz (s:List Int):(yt s).2.2<=s.length+1:=by grind [yt,yi5,zkx]
def yhd (h0:-9223372036854775808<=x) (h1:x<=9223372036854775807):∀i,i<[x].length->-9223372036854775808<=nth [x] i/\nth [x] i<=9223372036854775807:=by grind [nth]
def yko {y:Int} (h0:-9223372036854775808<=x) (h1:x<=9223372036854775807) (a:-9223372036854775808<=y) (b:y<=9223372036854775807):∀i,i<[x,y].length->-9223372036854775808<=nth [x,y] i/\nth [x,y] i<=9223372036854775807:=by grind [nth]
def zed (hm:zQ L=true) (c:zS t=true):ZL L t<=96/\xS L t<=96:=by obtain⟨h1,d⟩:=zd9 hm c;have a:=ze3 (P:=xU L t) hm c (QR _) (by omega);have b:((xU L t).toNat:Int)=xU L t:=WH (by omega);rw [<-b] at a;have f:=zel (P:=(xU L t).toNat) (T:=Xl L t) (by rw [b] at a ⊢;exact a);have g:=zch (P:=(xU L t).toNat) (T:=Xl L t) (by rw [b] at a ⊢;exact a);omega
def zbi (h:yN L t 1 (some K)):K.ops.length<=16/\(1<=K.pc/\K.pc<=200)/\(1<=K.st/\K.st<=1001)/\∀i,i<K.ops.length->(0<=(zv K.ops i).sl/\(zv K.ops i).sl<=200)/\(0<=(zv K.ops i).sg/\(zv K.ops i).sg<=1001)/\0<=(zv K.ops i).d/\(zv K.ops i).d<=128:=by obtain⟨P,T,D,a,-,hR,rfl⟩:=h.made _ rfl;obtain⟨k,h1,b,c,f,-,g,j⟩:=Zo (znq a (hR.dests a));obtain⟨-,-,-,-,o⟩:=yi k;refine⟨g,⟨h1,b⟩,⟨c,f⟩,fun i hi=>?_⟩;obtain⟨l,m,n,-⟩:=zds (j i hi);exact⟨by omega,by omega,by omega,by omega⟩
def zag {B:Nat} {y:World} {c:Int} {i:Option Addr} {f j:Nat} (h:(c=1/\f=0/\yQ y (.agg #[J k0,J k1,kv]) ⟨0,0,[]⟩/\yN L t 1 none)\/(c=0/\∃K,yQ y (.agg #[J k0,J k1,kv]) K/\ya4 B y (.slice i f j) (X8 L.b.length)/\yN L t 1 (some K))) :
  ∃K ka kc,(k0=K.pc/\k1=K.st/\kv=.slice ka K.ops.length kc)/\yQ y (.agg #[J k0,J k1,kv]) K/\((c=1/\yN L t 1 none)\/(c=0/\ya4 B y (.slice i f j) (X8 L.b.length)/\yN L t 1 (some K))):=by
 have key:∀K,yQ y (.agg #[J k0,J k1,kv]) K->∃ka kc,k0=K.pc/\k1=K.st/\kv=.slice ka K.ops.length kc:=fun K k=>by obtain⟨v,l,a,cap,m,-⟩:=k;simp_all
 rcases h with ⟨h1,-,d,g⟩ | ⟨h1,K,d,n,g⟩
 ·obtain⟨a,b,h⟩:=key _ d;exact⟨_,a,b,h,d,.inl ⟨h1,g⟩⟩
 grind
def zoc {x:World} {g:Nat} (b:yQ x (.agg #[J k0,J k1,kv]) K) (hb:x.heap[g]?=some (kB 0 0 none 0 0)) :
  yQ (((x.setCell (E g 0) (J k0)).setCell (E g 1) (J k1)).setCell (E g 2) kv) (.agg #[J k0,J k1,kv]) K/\(((x.setCell (E g 0) (J k0)).setCell (E g 1) (J k1)).setCell (E g 2) kv).heap[g]?=some (.cells #[J k0,J k1,kv] 75 (0,0)):=by
 have h1:=b.set (i:=0) hb (by show 3<10;omega) (J k0);have b1:(x.setCell (E g 0) (J k0)).heap[g]?=some (kB k0 0 none 0 0):=by simp [World.setCell,QC,hb]
 have a:=h1.set (i:=1) b1 (by show 3<10;omega) (J k1);have b2:((x.setCell (E g 0) (J k0)).setCell (E g 1) (J k1)).heap[g]?=some (kB k0 k1 none 0 0):=by simp [World.setCell,QC,hb]
 exact⟨a.set (i:=2) b2 (by show 3<10;omega) _,by simp [World.setCell,QC,hb]⟩
def zrw {X:World} {x y:Value} {ka:Option Addr} {n kc:Nat} (h:yQ X (.agg #[x,y,.slice ka n kc]) K) (k:0<K.ops.length):∃b c,ka=some (E b c)/\b<X.heap.size/\∀i,i<K.ops.length->∀j,j<10->X.cell? (E b (c+i*10+j))=(yZ (zv K.ops i))[j]?:=by obtain⟨v,d,a,cap,f,-,-,g⟩:=h;subst f;simp only [El,Ex,W9,and_true,Value.slice.injEq] at d;obtain⟨-,-,rfl,-,-⟩:=d;exact g k
end
end Go.Proofs.YtjlfcbccpcigeacGreatDoor
