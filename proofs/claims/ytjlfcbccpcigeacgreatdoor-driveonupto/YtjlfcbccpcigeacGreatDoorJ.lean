import Derived.Test.YtjlfcbccpcigeacGreatDoorC4
import Derived.Test.YtjlfcbccpcigeacGreatDoorE
import Derived.Test.YtjlfcbccpcigeacGreatDoorLaid
import Derived.Laws.AppendOwnNone
set_option maxHeartbeats 40000000
set_option linter.defProp false
namespace Go.Proofs.YtjlfcbccpcigeacGreatDoor
open Go.Proofs.Tryz Go.RowKit Go.Joins
set_option linter.unusedVariables false
set_option linter.unusedSimpArgs false
set_option maxRecDepth 8192
section
open Go.RowKit Go.Joins Go.Lib
open Go.RowKit Go.Joins Go.Lib Go.Shelf
variable {w:World} {B g n c k:Nat} {e:TypeId} {xs:List Value} {d:Array Ed} {l:List Int}
def yd1 (w:World) (a:Array Value) (e:TypeId) (cap:Nat) (h:a.size=cap*4) (hm:cap<=maxLen):(w.drew.alloc (.cells a e)).ownsRow w.heap.size e 4 (.slice (pA w.heap.size) 0 cap) 0 []:=by refine⟨rfl,.inr ⟨w.heap.size,cap,a,rfl,Qc _,?_,Ql _,hm,h,by simp⟩⟩;show (w.heap.push _)[w.heap.size]?=_;simp
def zrs (w:World):Calls prog 80 #[.slice none 0 0,J 0] w fun e w'=>e=.returned (.slice none 0 0)/\w'=w :=
 Any8.slices_Grow_room Tryz.growE none 0 0 0 w (by omega) (by omega) (by omega) (by omega)
def zrr (n:Nat) (w:World) (h0:0<n) (h:n<=300):Calls prog 80 #[.slice none 0 0,J n] w fun e w'=>∃c,e=.returned (.slice (pA w.heap.size) 0 c)/\w'.ownsRow w.heap.size 98 4 (.slice (pA w.heap.size) 0 c) 0 []/\Bw w w':=by
 obtain⟨j,k,b,l,d⟩:=info_parts Tryz.i98;have g:=Any8.slices_Grow_grow Tryz.growE j (.agg #[J 0,J 0,J 0,J 0]) k b (by omega) none 0 0 n [] w (by omega) (by omega) (by rw [d];omega) (by omega) (by simp) (fun _=>rfl) (fun a h=>by cases h);refine g.mono fun e w' ⟨i,f⟩=>⟨_,i,?_,?_⟩
 ·subst f;have m:0+n<=grownCap w (0+n) 0 (Tryz.growE_ren.t 25):=grownCap_ge w _ _ _;refine yd1 w _ 98 _ ?_ (grownCap_le_maxLen w _ _ _ (by unfold maxLen;omega));simp only [Array.size_append,size_zeroCells];show 0+(0+n - 0)*4+(grownCap w (0+n) 0 (Tryz.growE_ren.t 25) - (0+n))*4=_;omega
 subst f;exact (zV w.heap.size w).trans (Qd w.drew _)
theorem zal (n:Nat) (w:World) (h:n<=300):Calls prog 80 #[.slice none 0 0,J n] w fun e w'=>∃a c,e=.returned (.slice a 0 c)/\w'.ownsRow w.heap.size 98 4 (.slice a 0 c) 0 []/\Bw w w':=by
 by_cases h0:n=0
 ·subst h0;exact (zrs w).mono fun e w' ⟨b,f⟩=>⟨none,0,b,World.ownsRow_nil _ _ _ _,by rw [f];exact QA _ _⟩
 exact (zrr n w (by omega) h).mono fun e w' ⟨c,b,d,hb⟩=>⟨_,c,b,d,hb⟩
def zfm (h:w.ownsRow B e 4 (.slice (pA g) n c) n xs):∀(j:Nat) (u:Value),xs[j]?=some u->w.cell? (((E g 0):Addr).add j)=some u:=by
 intro j u a;obtain⟨o,h⟩:=h;rcases h with ⟨h,-⟩ | ⟨k,cap,b,i,m,hb,hn,hm,l,f⟩
 ·simp_all
 injection i with e1 e2 e3;injection e1 with e1;injection e1 with e1;subst e1;have d:((E g 0):Addr).add j=(E g j):=by simp [Addr.add];omega
 rw [<-f,We] at a;split at a
 ·rw [d,Qa hb];simpa using a
 cases a
def zcb (l:List Ed):∀u∈yI l,u.oneCell'=true:=by intro u b;unfold yI at b;obtain⟨d,-,a⟩:=List.mem_flatMap.1 b;unfold zY at a;simp at a;rcases a with rfl | rfl | rfl | rfl <;> rfl
theorem zm0 (a b:List Ed):yI (a++b)=yI a++yI b:=by unfold yI;simp
def YL (h:w.ownsRow B e 4 (.slice none n c) n xs):n=0/\c=0/\xs=[]:=by
 obtain⟨a,h⟩:=h;simp_all
def Yq {a:Addr} (h:w.ownsRow B e 4 (.slice (some a) n c) n xs):∃g,a=(E g 0):=by
 obtain⟨b,h⟩:=h;grind
set_option maxRecDepth 100000 in
def zw8 (l1 l2:List Ed) (f n1 n2 i j B1 B2 r s:Nat) (w:World) (R:l1.length=n1) (S:l2.length=n2) (B:w.cell? (E f 0)=some (.slice (pA r) n1 i)) (C:w.cell? (E f 1)=some (.slice (pA s) n2 j)) (n:f<w.heap.size)
  (h1:w.ownsRow B1 98 4 (.slice (pA r) n1 i) n1 (yI l1)) (I:w.ownsRow B2 98 4 (.slice (pA s) n2 j) n2 (yI l2)) (hlen:n1+n2<=300) :
  Calls prog 44 #[.slice (pA f) 2 2] w fun e w'=>∃G,e=.returned G/\w'.ownsRow w.heap.size 98 4 G (n1+n2) (yI l1++yI l2)/\Bw w w':=by
 have N:=Z h1;have O:=Z I;have P:Hid (Calls prog 80 #[.slice none 0 0,J ((n1:Int)+(n2:Int))] w fun e w'=>∃a c,e=.returned (.slice a 0 c)/\w'.ownsRow w.heap.size 98 4 (.slice a 0 c) 0 []/\Bw w w'):=by have h:=zal (n1+n2) w (by omega);exact h
 obtain⟨L,M,k,l,m⟩:=info_parts Tryz.i98;have A:n1<=i/\i<=maxLen:=by grind [zD]
 unfold maxLen at A;obtain⟨bD,bE⟩:=A;have y:n2<=j/\j<=maxLen:=by grind [zD]
 unfold maxLen at y;obtain⟨bF,bG⟩:=y;clear h1 I;go_enter func44,ntmps44;go_wp2;refine wp_loop_rounds 3 ?_;rw [rounds_succ];go_wp2;rw [rounds_succ];go_wp2;rw [rounds_succ];go_wp2_with fail;refine P.out.mono ?_;rintro e x1 ⟨ga,gc,rfl,K,g⟩;have D:=Z K;have q:=Z g;have d0:=(ze g f 0 n).trans B;have F:=(ze g f 1 n).trans C;have z:=g.size;clear K g B C;go_wp2;refine wp_loop_rounds 3 ?_;rw [rounds_succ];go_wp2_with (at_builtin;refine QQ _ rfl (.tmp 31) (.tmp 32) 68 rfl w.heap.size 98 L (.agg #[J 0,J 0,J 0,J 0]) 4 32 underlying68 M k l m rfl (by decide) _ _ _ rfl D.out (E r 0) n1 i (yI l1) rfl (by rw [zak,R]) (zfm (zp N.out q.out)) (zcb l1) (by unfold maxLen;omega) (by omega) z ?_;intro v2' w2 p H t;rw [QO,W8] at p;obtain⟨U,W,rfl,bK,bL⟩:=zD p;have x:=Z p;have o:=Z (q.out.grown H z (zE D.out));clear p H);have F:=(ze o.out f 1 n).trans ((ze q.out f 1 n).symm.trans F);rw [rounds_succ];have v:=o.out.size;go_wp2_with (at_builtin;refine QQ _ rfl (.tmp 31) (.tmp 32) 68 rfl w.heap.size 98 L (.agg #[J 0,J 0,J 0,J 0]) 4 32 underlying68 M k l m rfl (by decide) _ _ _ rfl x.out (E s 0) n2 j (yI l2) rfl (by rw [zak,S]) (zfm (zp O.out o.out)) (zcb l2) (by unfold maxLen;omega) (by omega) v ?_;intro v3' w3 b d u;obtain⟨V,X,rfl,bM,bN⟩:=zD b;have T:=Z b;have Q:=Z (o.out.grown d v (zE x.out));clear b d);rw [rounds_succ];go_wp2;go_ret;exact⟨_,rfl,by have h:=T.out;exact h,Q.out⟩
set_option maxRecDepth 100000 in
def zw7 (l1 l2:List Ed) (b n1 n2 f S B1 B2 k U:Nat) (w:World) (H:l1.length=n1) (N:l2.length=n2) (s:w.cell? (E b 0)=some (.slice (pA k) n1 f)) (t:w.cell? (E b 1)=some (.slice none 0 0)) (g:b<w.heap.size)
  (h1:w.ownsRow B1 98 4 (.slice (pA k) n1 f) n1 (yI l1)) (A:w.ownsRow B2 98 4 (.slice none 0 0) 0 (yI [])) (hlen:n1+n2<=300) :
  Calls prog 44 #[.slice (pA b) 2 2] w fun e w'=>∃y,e=.returned y/\w'.ownsRow w.heap.size 98 4 y (n1+0) (yI l1++yI [])/\Bw w w':=by
 have F:=Z h1;have M:=Z A;have G:Hid (Calls prog 80 #[.slice none 0 0,J ((n1:Int))] w fun e w'=>∃a c,e=.returned (.slice a 0 c)/\w'.ownsRow w.heap.size 98 4 (.slice a 0 c) 0 []/\Bw w w'):=by grind [zal]
 obtain⟨C,D,m,n,o⟩:=info_parts Tryz.i98;have r:n1<=f/\f<=maxLen:=by grind [zD]
 unfold maxLen at r;obtain⟨O,P⟩:=r;clear h1 A;go_enter func44,ntmps44;go_wp2;refine wp_loop_rounds 3 ?_;rw [rounds_succ];go_wp2;rw [rounds_succ];go_wp2;rw [rounds_succ];go_wp2_with fail;refine G.out.mono ?_;rintro e X ⟨V,W,rfl,B,d⟩;have u:=Z B;have j:=Z d;have T:=(ze d b 0 g).trans s;have x:=(ze d b 1 g).trans t;have q:=d.size;clear B d s t;go_wp2;refine wp_loop_rounds 3 ?_;rw [rounds_succ];go_wp2_with (at_builtin;refine QQ _ rfl (.tmp 31) (.tmp 32) 68 rfl w.heap.size 98 C (.agg #[J 0,J 0,J 0,J 0]) 4 32 underlying68 D m n o rfl (by decide) _ _ _ rfl u.out (E k 0) n1 f (yI l1) rfl (by rw [zak,H]) (zfm (zp F.out j.out)) (zcb l1) (by unfold maxLen;omega) (by omega) q ?_;intro L w2 i z l;rw [QO,W8] at i;obtain⟨I,K,rfl,Q,R⟩:=zD i;have p:=Z i;have v:=Z (j.out.grown z q (zE u.out));clear i z);have x:=(ze v.out b 1 g).trans ((ze j.out b 1 g).symm.trans x);rw [rounds_succ];go_wp2_with (at_builtin;refine wpList_append_own_none rfl (.tmp 31) (.tmp 32) 68 rfl w.heap.size 98 C 4 underlying68 D _ _ _ rfl p.out rfl ?_);rw [rounds_succ];go_wp2;go_ret;exact⟨_,rfl,by have h:=p.out;simpa [yI] using h,v.out⟩
set_option maxRecDepth 100000 in
def zw6 (l1 l2:List Ed) (f n1 n2 S i B1 B2 V l:Nat) (w:World) (N:l1.length=n1) (F:l2.length=n2) (t:w.cell? (E f 0)=some (.slice none 0 0)) (u:w.cell? (E f 1)=some (.slice (pA l) n2 i)) (s:f<w.heap.size)
  (h1:w.ownsRow B1 98 4 (.slice none 0 0) 0 (yI [])) (x:w.ownsRow B2 98 4 (.slice (pA l) n2 i) n2 (yI l2)) (hlen:n1+n2<=300) :
  Calls prog 44 #[.slice (pA f) 2 2] w fun e w'=>∃v,e=.returned v/\w'.ownsRow w.heap.size 98 4 v (0+n2) (yI []++yI l2)/\Bw w w':=by
 have L:=Z h1;have B:=Z x;have C:Hid (Calls prog 80 #[.slice none 0 0,J ((n2:Int))] w fun e w'=>∃a c,e=.returned (.slice a 0 c)/\w'.ownsRow w.heap.size 98 4 (.slice a 0 c) 0 []/\Bw w w'):=by grind [zal]
 obtain⟨z,A,n,o,p⟩:=info_parts Tryz.i98;have r:n2<=i/\i<=maxLen:=by grind [zD]
 unfold maxLen at r;obtain⟨O,P⟩:=r;clear h1 x;go_enter func44,ntmps44;go_wp2;refine wp_loop_rounds 3 ?_;rw [rounds_succ];go_wp2;rw [rounds_succ];go_wp2;rw [rounds_succ];go_wp2_with fail;refine C.out.mono ?_;rintro e x1 ⟨W,X,rfl,y,g⟩;have k:=Z y;have j:=Z g;have T:=(ze g f 0 s).trans t;have U:=(ze g f 1 s).trans u;have M:=g.size;clear y g t u;go_wp2;refine wp_loop_rounds 3 ?_;rw [rounds_succ];go_wp2_with (at_builtin;refine wpList_append_own_none rfl (.tmp 31) (.tmp 32) 68 rfl w.heap.size 98 z 4 underlying68 A _ _ _ rfl k.out rfl ?_);rw [rounds_succ];have q:=j.out.size;go_wp2_with (at_builtin;refine QQ _ rfl (.tmp 31) (.tmp 32) 68 rfl w.heap.size 98 z (.agg #[J 0,J 0,J 0,J 0]) 4 32 underlying68 A n o p rfl (by decide) _ _ _ rfl k.out (E l 0) n2 i (yI l2) rfl (by rw [zak,F]) (zfm (zp B.out j.out)) (zcb l2) (by unfold maxLen;omega) (by omega) q ?_;intro K w3 b d m;rw [QO,W8] at b;obtain⟨H,I,rfl,Q,R⟩:=zD b;have G:=Z b;have D:=Z (j.out.grown d q (zE k.out));clear b d);rw [rounds_succ];go_wp2;go_ret;exact⟨_,rfl,by have h:=G.out;simpa [yI] using h,D.out⟩
set_option maxRecDepth 100000 in
def zw5 (l1 l2:List Ed) (b n1 n2 A B B1 B2 F G:Nat) (w:World) (y:l1.length=n1) (z:l2.length=n2) (i:w.cell? (E b 0)=some (.slice none 0 0)) (j:w.cell? (E b 1)=some (.slice none 0 0)) (g:b<w.heap.size)
  (h1:w.ownsRow B1 98 4 (.slice none 0 0) 0 (yI [])) (l:w.ownsRow B2 98 4 (.slice none 0 0) 0 (yI [])) (hlen:n1+n2<=300) :
  Calls prog 44 #[.slice (pA b) 2 2] w fun e w'=>∃k,e=.returned k/\w'.ownsRow w.heap.size 98 4 k (0+0) (yI []++yI [])/\Bw w w':=by
 have u:=Z h1;have v:=Z l;have p:Hid (Calls prog 80 #[.slice none 0 0,J (0)] w fun e w'=>∃a c,e=.returned (.slice a 0 c)/\w'.ownsRow w.heap.size 98 4 (.slice a 0 c) 0 []/\Bw w w'):=by have h:=zal (0+0) w (by omega);exact h
 obtain⟨n,o,r,s,t⟩:=info_parts Tryz.i98;clear h1 l;go_enter func44,ntmps44;go_wp2;refine wp_loop_rounds 3 ?_;rw [rounds_succ];go_wp2;rw [rounds_succ];go_wp2;rw [rounds_succ];go_wp2_with fail;refine p.out.mono ?_;rintro e K ⟨H,I,rfl,m,d⟩;have f:=Z m;have q:=Z d;have C:=(ze d b 0 g).trans i;have D:=(ze d b 1 g).trans j;have x:=d.size;clear m d i j;go_wp2;refine wp_loop_rounds 3 ?_;rw [rounds_succ];go_wp2_with (at_builtin;refine wpList_append_own_none rfl (.tmp 31) (.tmp 32) 68 rfl w.heap.size 98 n 4 underlying68 o _ _ _ rfl f.out rfl ?_);rw [rounds_succ];go_wp2_with (at_builtin;refine wpList_append_own_none rfl (.tmp 31) (.tmp 32) 68 rfl w.heap.size 98 n 4 underlying68 o _ _ _ rfl f.out rfl ?_);rw [rounds_succ];go_wp2;go_ret;exact⟨_,rfl,by have h:=f.out;simpa [yI] using h,q.out⟩
def zr4 (l1 l2:List Ed) (c B1 B2:Nat) (q v2:Value) (w:World) (h:w.cell? (E c 0)=some q) (i:w.cell? (E c 1)=some v2) (g:c<w.heap.size)
  (h1:w.ownsRow B1 98 4 q l1.length (yI l1)) (b:w.ownsRow B2 98 4 v2 l2.length (yI l2)) (hlen:l1.length+l2.length<=300) :
  Calls prog 44 #[.slice (pA c) 2 2] w fun e w'=>∃o,e=.returned o/\w'.ownsRow w.heap.size 98 4 o (l1++l2).length (yI (l1++l2))/\Bw w w':=by
 rw [zm0,Qt];obtain⟨r,l,rfl,-,-⟩:=zD h1;obtain⟨k,m,rfl,-,-⟩:=zD b;cases r with
 | none =>
  obtain⟨d,rfl,n⟩:=YL h1;have f:l1=[]:=Wi.1 d;subst f;cases k with
  | none =>obtain⟨d,rfl,n⟩:=YL b;have f:l2=[]:=Wi.1 d;subst f;exact zw5 [] [] c 0 0 0 0 B1 B2 0 0 w rfl rfl h i g h1 b (by omega)
  | some a =>obtain⟨j,rfl⟩:=Yq b;exact zw6 [] l2 c 0 l2.length 0 m B1 B2 0 j w rfl rfl h i g h1 b (by omega)
 | some a =>
  obtain⟨p,rfl⟩:=Yq h1;cases k with
  | none =>obtain⟨d,rfl,n⟩:=YL b;have f:l2=[]:=Wi.1 d;subst f;exact zw7 l1 [] c l1.length 0 l 0 B1 B2 p 0 w rfl rfl h i g h1 b (by omega)
  | some a =>obtain⟨j,rfl⟩:=Yq b;exact zw8 l1 l2 c l1.length l2.length l m B1 B2 p j w rfl rfl h i g h1 b hlen
def ErV [Inhabited Ed] (w:World) (g:Nat) (d:Array Ed):Prop:=∀i,i<d.size->∀j,j<4->w.cell? (E g (i*4+j))=(zY d[i]!)[j]?/\w.frozen? (E g (i*4+j))=false
def ErV.parts [Inhabited Ed] (h:ErV w g d) {i:Nat} (hi:i<d.size) :
  (w.cell? (E g (i*4))=some (J d[i]!.fr)/\w.cell? (E g (i*4+1))=some (J d[i]!.to)/\w.cell? (E g (i*4+2))=some (J d[i]!.bk)/\w.cell? (E g (i*4+3))=some (J d[i]!.wt)) /\
  (w.frozen? (E g (i*4))=false/\w.frozen? (E g (i*4+1))=false/\w.frozen? (E g (i*4+2))=false/\w.frozen? (E g (i*4+3))=false) :=
 ⟨⟨(h i hi 0 (by omega)).1,(h i hi 1 (by omega)).1,(h i hi 2 (by omega)).1,(h i hi 3 (by omega)).1⟩,⟨(h i hi 0 (by omega)).2,(h i hi 1 (by omega)).2,(h i hi 2 (by omega)).2,(h i hi 3 (by omega)).2⟩⟩
theorem ErV.set [Inhabited Ed] (h:ErV w g d) (c:k<d.size) (u:Ed):ErV (w.setCells g (k*4) (zY u)) g (d.setIfInBounds k u):=by
 intro i hi j b;have a:i<d.size:=by simpa using hi
 refine⟨?_,by rw [World.frozen?_setCells];exact (h i a j b).2⟩;by_cases e:i=k
 ·subst e;have h1:=World.cell?_setCells_in g (zY u) (i*4) w (fun q f=>by
   have:=(h i a q (by have:(zY u).length=4:=rfl;omega)).1;rw [this];have:q<(zY d[i]!).length:=by have:(zY u).length=4:=rfl;show q<4;omega
   rw [Qh this];rfl) j (by show j<4;exact b)
  rw [h1,Go.Sort.getElem!_set_same d i u a,Qh (by show j<4;exact b)]
 rw [World.cell?_setCells_out _ _ _ _ _ (fun _ _=>by have:(zY u).length=4:=rfl;show i*4+j<k*4\/k*4+(zY u).length<=i*4+j;omega),Go.Sort.getElem!_set_other d k i u e];exact (h i a j b).1
theorem ErV.out [Inhabited Ed] (h:ErV w g d) (o:Nat) (vs:List Value) (b:d.size*4<=o):ErV (w.setCells g o vs) g d:=by intro i hi j a;refine⟨?_,by rw [World.frozen?_setCells];exact (h i hi j a).2⟩;rw [World.cell?_setCells_out _ _ _ _ _ (fun _ _=>.inl (by grind))];exact (h i hi j a).1
def ErV.less [Inhabited Ed] {d':Array Ed} (h:ErV w g d) (hs:d'.size<=d.size) (a:∀i,i<d'.size->d'[i]! = d[i]!):ErV w g d':=by grind [ErV]
def Xu (hB:B<=g):∀(vs:List Value) (o:Nat) (a w:World),Below B a w->Below B a (w.setCells g o vs)
 | [],_,_,_,h=>h
 | v :: r,o,a,w,h=>Xu hB r (o+1) a _ (h.setCell (p:=(E g o)) hB v)
def zvx {P:Program} (w:World) (t e g:TypeId) (z:Value) (d:P.underlying t=some (.slice e)) (f:∀w,(zeroValue e).run P w=.ok z w) (b o n c:Nat) (hn:0<n)
  (h:∀j,j<(Builtin.zeroCells z.cells n).toList.length->(w.cell? (E b (o+j))).isSome=true) (i:∀j,j<(Builtin.zeroCells z.cells n).toList.length->w.frozen? (E b (o+j))=false) (h1:∀v∈(Builtin.zeroCells z.cells n).toList,v.oneCell'=true) :
  (Builtin.clear_ #[t] g #[.slice (some (E b o)) n c]).run P w=.ok (.tuple #[]) (w.setCells b o (Builtin.zeroCells z.cells n).toList):=by have a:=run_storeCells_cells (P:=P) b o (Builtin.zeroCells z.cells n).toList 0 w (by omega) (by omega) h1;simp only [WG] at a;obtain⟨m,rfl⟩:∃m,n=m+1:=⟨n - 1,by omega⟩;simp [Builtin.clear_,run_underlying d,f,a]
def yf0:∀v∈(Builtin.zeroCells (.agg #[J 0,J 0,J 0,J 0]:Value).cells n).toList,v.oneCell'=true:=by
 intro v a;unfold Builtin.zeroCells at a;simp at a;obtain⟨i,hi,rfl⟩:=a;have:i % 4=0\/i % 4=1\/i % 4=2\/i % 4=3:=by omega
 rcases this with h | h | h | h <;> simp [Value.cells,h] <;> rfl
theorem Vr (b:Nat):∀(vs:List Value) (o:Nat) (w:World),(w.setCells b o vs).heap.size=w.heap.size
 | [],_,_=>rfl
 | v :: r,o,w=>(Vr b r (o+1) _).trans (by simp [World.setCell])
def yl0 (a c d f g h i j:Int) (b:Bool) (hb:b=decide (a=g/\c=h/\d=i/\f=j)) (w:World):(binOp .eql 98 (.agg #[J a,J c,J d,J f]) (.agg #[J g,J h,J i,J j])).run prog w=.ok (.bool b) w:=by
 have hS:prog.underlying 98=some (.struct (prog.fieldsOf 98)):=by kernel_rfl
 have k:prog.stoodInHeld 98=false:=by kernel_rfl
 rw [run_eql_struct,show (10000:Nat)=9999+1 from rfl,run_equalIn_agg w 9999 98 _ _ hS k];simp only [Program.fieldsOf,underlying98];have u3:=underlying3;go_simp;grind
def yl1 (a c d f g h i j:Int) (b:Bool) (hb:b=!decide (a=g/\c=h/\d=i/\f=j)) (w:World):(binOp .neq 98 (.agg #[J a,J c,J d,J f]) (.agg #[J g,J h,J i,J j])).run prog w=.ok (.bool b) w:=by
 have hS:prog.underlying 98=some (.struct (prog.fieldsOf 98)):=by kernel_rfl
 have k:prog.stoodInHeld 98=false:=by kernel_rfl
 rw [run_neq_struct,show (10000:Nat)=9999+1 from rfl,run_equalIn_agg w 9999 98 _ _ hS k];simp only [Program.fieldsOf,underlying98];have u3:=underlying3;go_simp;grind
def yiy (op:BinOp) (a b:Operand) (c d f g h i j k:Int) (w:World):(eqGuard op 98 a b (.agg #[J c,J d,J f,J g]) (.agg #[J h,J i,J j,J k])).run prog w=.ok () w:=run_eqGuard_agg w op 98 a b _ _ (by kernel_rfl)
set_option maxRecDepth 100000 in
def zin [Inhabited Ed] [DecidableEq Ed] (g cap B:Nat) (d:Array Ed) (w:World) (hH:ErV w g d) (hB:B<=g) (hg:g<w.heap.size) (dx:d.size<=300) (bH:d.size<=cap) (hm:cap<=9223372036854775807) :
  Calls prog 49 #[.slice (pA g) d.size cap] w fun e w'=>e=.returned (.slice (pA g) (compactUpTo d d.size).length cap)/\ErV w' g (compactUpTo d d.size).toArray/\Below B w w'/\w.heap.size<=w'.heap.size:=by
 have HH:=Z hH;clear hH;have aJ:Hid (∀wr,ErV wr g d->(∀j,j<d.size->keeps d j=true)->compactUpTo d d.size=d.toList/\ErV wr g (compactUpTo d d.size).toArray):=by
  intro wr hr hall;have e:compactUpTo d d.size=d.toList:=by rw [compactUpTo_all d _ hall,range_map_get]
  simp_all
 have bU:=Z yl0;have bZ:=Z yl1;have bV:=Z yiy;by_cases h2:d.size<2
 ·have dg:(d.size:Int)<2:=by omega
  go_enter func49,ntmps49;go_wp2;go_ret;obtain⟨r,s⟩:=aJ.out w HH.out (fun j U=>keeps_lt_one d j (by omega));exact⟨by rw [r];simp,s,QA _ _,Qc _⟩
 have dg:¬(d.size:Int)<2:=by omega
 go_enter func49,ntmps49;go_wp2;go_loopw [3] (fun W wr=>∃k:Nat,1<=k/\k<=d.size/\W=J k/\(∀j,j<k->keeps d j=true)/\ErV wr g d/\Below B w wr/\w.heap.size<=wr.heap.size) (fun W _=>d.size - (intOf W).toNat)
 case atStart=>exact⟨1,Qc _,by omega,rfl,keeps_lt_one d,HH.out,QA _ _,Qc _⟩
 obtain⟨k,dI,hk,rfl,hall,f,M,D⟩:=hrel;have HA:=Z hall;have t:=Z f;have C:=Z M;clear hall f M;by_cases hlt:k<d.size
 ·obtain⟨m,rfl⟩:∃m,k=m+1:=⟨k - 1,by omega⟩;obtain⟨⟨N,O,P,Q⟩,-⟩:=t.out.parts hlt;obtain⟨⟨S,r,s,T⟩,-⟩:=t.out.parts (i:=m) (by omega);have bY:=Z (fun h=>keeps_pos (d:=d) (m:=m+1) h);have bW:=Z (fun h=>keeps_neg (d:=d) (m:=m+1) (by omega) h);rw [Nat.add_sub_cancel] at bY bW;generalize d[m+1]! = x at *
  generalize d[m]! = y at *
  obtain⟨n,o,p,q⟩:=x;obtain⟨G,H,I,K⟩:=y;dsimp only at N O P Q S r s T;have dK:(m:Int)<(d.size:Int):=by omega
  have bJ:((m:Int)+1)<(d.size:Int):=by omega
  have cJ:IntKind.i64.wrap ((m:Int)+1 - 1)=(m:Int):=by rw [Wq];omega
  have cE:=bV.out .eql;by_cases b:(⟨n,o,p,q⟩:Ed)=⟨G,H,I,K⟩
  ·have cC:=bU.out n o p q G H I K true (by rw [Ed.mk.injEq] at b;simp [b]);go_wp2;go_big_quiet ((fail));clear N O P Q S r s T cC cE cJ;have aS:=Z (bW.out b);obtain⟨R,hR⟩:=nm (d.size - (m+1));have dD:R<=cap - (m+1):=(by omega);rename World=>wo;go_wp2;go_loopw [3,5] (fun W s5 wr=>∃(kk a:Nat) (F:Array Ed),W=J kk/\s5=J ((a:Int)+1)/\m+1+(a+1)<=d.size/\CompInv d (m+1+(a+1)) kk F/\ErV wr g F/\Below B w wr/\w.heap.size<=wr.heap.size) (fun _ s5 _=>d.size - (intOf s5).toNat)
   case atStart=>exact⟨m+1,0,d,rfl,rfl,by omega,CompInv.start HA.out aS.out,t.out,C.out.trans (Qm _ _ _),by simpa using D⟩
   clear t C D;obtain⟨kk,a,F,rfl,rfl,dp,A,f,M,D⟩:=hrel;have dJ:=A.lt;have dG:=A.size;have L:=Z A;have t:=Z f;have C:=Z M;by_cases V:m+1+(a+1)<d.size
   ·obtain⟨⟨N,O,P,Q⟩,-⟩:=f.parts (i:=m+1+(a+1)) (by omega);obtain⟨⟨S,r,s,T⟩,-⟩:=f.parts (i:=m+1+a) (by omega);obtain⟨⟨b0,b1,b2,b3⟩,⟨f0,f1,f2,f3⟩⟩:=f.parts (i:=kk) (by omega);rw [A.high (m+1+(a+1)) (by omega)] at N O P Q;rw [A.high (m+1+a) (by omega)] at S r s T;rw [show (m+1+(a+1))*4=(m+1)*4+(a+1)*4 by omega] at N O P Q;rw [show (m+1+a)*4=(m+1)*4+a*4 by omega] at S r s T;have aO:=Z (fun h=>A.skip (keeps_neg (d:=d) (m:=m+1+(a+1)) (by omega) h));have X:=Z (fun h=>A.keep V (keeps_pos (d:=d) (m:=m+1+(a+1)) h));rw [show m+1+(a+1) - 1=m+1+a by omega] at aO X;have ce:=Z (fun u=>f.set (k:=kk) (by omega) u);clear A f M;generalize d[m+1+(a+1)]! = x at *
    generalize d[m+1+a]! = y at *
    generalize F[kk]! = z at *
    obtain⟨n,o,p,q⟩:=x;obtain⟨G,H,I,K⟩:=y;dsimp only at N O P Q S r s T;have i1:(a:Int)+1<(R:Int):=(by omega);have i2:(a:Int)<(R:Int):=(by omega);have i3:(kk:Int)<(d.size:Int):=(by omega);have cJ:IntKind.i64.wrap ((a:Int)+1 - 1)=(a:Int):=(by rw [Wq];omega);have cE:=bV.out .neq;by_cases c:(⟨n,o,p,q⟩:Ed)=⟨G,H,I,K⟩
    ·have dw:=bZ.out n o p q G H I K false (by rw [Ed.mk.injEq] at c;simp [c]);have aT:=Z (aO.out c);clear c aO X ce;go_wp2;go_big_quiet ((fail));go_wp2;go_roundw
     case rel=>exact⟨kk,a+1,F,rfl,by go_num,by omega,aT.out,t.out,C.out.trans (Qm _ _ _),by simpa using D⟩
     simp [intOf];omega
    have dw:=bZ.out n o p q G H I K true (by rw [Ed.mk.injEq] at c;simp [c]);have aT:=Z (X.out c);clear c aO X;go_wp2;go_big_quiet ((fail));go_wp2;go_roundw
    case rel=>exact⟨kk+1,a+1,F.setIfInBounds kk ⟨n,o,p,q⟩,by go_num,by go_num,by omega,aT.out,ce.out ⟨n,o,p,q⟩,Xu hB (zY ⟨n,o,p,q⟩) (kk*4) w _ (C.out.trans (Qm _ _ _)),by have:=Vr g (zY ⟨n,o,p,q⟩) (kk*4) wr;simpa using QH D (qQ this.symm)⟩
    simp [intOf];omega
   have bI:m+1+(a+1)=d.size:=(by omega);have cM:Hid (∀ty,(Builtin.clear_ #[68] ty #[.slice (some (E g (kk*4))) (d.size - kk) (cap - kk)]).run prog wr=.ok (.tuple #[]) (wr.setCells g (kk*4) (Builtin.zeroCells (.agg #[J 0,J 0,J 0,J 0]:Value).cells (d.size - kk)).toList)):=by
    intro ty;have cL:(Builtin.zeroCells (.agg #[J 0,J 0,J 0,J 0]:Value).cells (d.size - kk)).toList.length=(d.size - kk)*4:=(by rw [Array.length_toList,size_zeroCells];rfl);refine zvx wr _ _ ty _ underlying68 Tryz.zeroValue98 g (kk*4) _ _ (by omega) ?_ ?_ ?_
    ·intro j U;rw [cL] at U;have h:=(f (kk+j / 4) (by omega) (j % 4) (by omega)).1;rw [show (kk+j / 4)*4+j % 4=kk*4+j by omega] at h;rw [h,Qh (show j % 4<(zY F[kk+j / 4]!).length by show j % 4<4;omega)];rfl
    ·intro j U;rw [cL] at U;have h:=(f (kk+j / 4) (by omega) (j % 4) (by omega)).2;rw [show (kk+j / 4)*4+j % 4=kk*4+j by omega] at h;exact h
    intro v hv;exact yf0 v hv
   rw [bI] at L;have i1:¬(a:Int)+1<(R:Int):=(by omega);have i3:(kk:Int)<=(d.size:Int):=(by omega);have dF:=cM.out;clear A f M;go_wp2;go_ret;refine⟨by rw [L.out.len];rfl,?_,Xu hB _ _ _ _ C.out,by rw [Vr];exact D⟩;refine (t.out.less (d':=(compactUpTo d d.size).toArray) ?_ ?_).out _ _ ?_
   ·rw [EG,L.out.len];omega
   ·intro i hi;have ai:i<kk:=(by rw [EG,L.out.len] at hi;exact hi);have h:=L.out.low i ai;rw [getElem!_pos _ i hi];simp only [List.getElem_toArray];have h2:=Qh (l:=compactUpTo d d.size) (i:=i) (by omega);rw [h] at h2;exact (QD h2).symm
   rw [EG,L.out.len];exact Qc _
  have cC:=bU.out n o p q G H I K false (by rw [Ed.mk.injEq] at b;simp [b]);have cS:=Z (bY.out b);go_wp2;go_big_quiet ((fail));go_wp2;go_roundw
  case rel=>exact⟨m+1+1,by omega,by omega,by go_num,fun j U=>(by by_cases e:j=m+1;exact e ▸ cS.out;exact HA.out j (by omega)),t.out,C.out.trans (Qm _ _ _),by simpa using D⟩
  simp [intOf];omega
 have:k=d.size:=by omega
 subst this;have bJ:¬(d.size:Int)<(d.size:Int):=by omega
 go_wp2;go_ret;obtain⟨r,s⟩:=aJ.out _ t.out HA.out;exact⟨by rw [r];simp,s,C.out,D⟩
def zdj (x:Int) (w:World):Calls prog 141 #[J x] w fun e w'=>e=.returned (.bool false)/\w'=w:=by
 have hb:(x != x)=false:=by simp
 go_enter func141,ntmps141;go_wp2;go_ret;exact⟨rfl,rfl⟩
def Va (x y:Int) (w:World):Calls prog 89 #[J x,J y] w fun e w'=>e=.returned (J (Yi x y))/\w'=w:=by
 unfold Yi;by_cases h1:x<y
 ·rw [Qf h1];go_enter func89,ntmps89;go_wp2_with (go_at_call 141;refine (zdj _ _).mono ?_;rintro e w' ⟨rfl,rfl⟩);go_ret;exact⟨rfl,rfl⟩
 rw [Qe h1];by_cases a:y<x
 ·rw [Qf a];go_enter func89,ntmps89;go_wp2_with (go_at_call 141;refine (zdj _ _).mono ?_;rintro e w' ⟨rfl,rfl⟩);go_ret;exact⟨rfl,rfl⟩
 rw [Qe a];go_enter func89,ntmps89;go_wp2_with (go_at_call 141;refine (zdj _ _).mono ?_;rintro e w' ⟨rfl,rfl⟩);go_ret;exact⟨rfl,rfl⟩
def zdv (l:List Int) (k:Nat):Int:=match (l.drop k).find? (fun x=>decide (x≠0)) with | some x=>x | none=>0
theorem UV (a:k<l.length) (h:nth l k≠0):zdv l k=nth l k:=by
 have e:l.drop k=nth l k :: l.drop (k+1):=by rw [EP a];grind [nth]
 grind [zdv]
def zcw (a:k<l.length) (h:nth l k=0):zdv l k=zdv l (k+1):=by simp_all [nth,zdv,EP]
def zou:zdv l l.length=0:=by simp [zdv]
def yji (a b:Ed):zdv [Yi a.fr b.fr,Yi a.to b.to,Yi a.bk b.bk,Yi a.wt b.wt] 0=zbe a b:=by
 unfold zbe;generalize Yi a.fr b.fr=x;generalize Yi a.to b.to=y;generalize Yi a.bk b.bk=z;generalize Yi a.wt b.wt=u;by_cases h1:x≠0
 ·grind [UV,nth]
 rw [Qe h1,zcw (by simp) (show nth [x,y,z,u] 0=0 from Classical.not_not.1 h1)];by_cases c:y≠0
 ·grind [UV,nth]
 rw [Qe c,zcw (by simp) (show nth [x,y,z,u] 1=0 from Classical.not_not.1 c)];by_cases d:z≠0
 ·grind [UV,nth]
 rw [Qe d,zcw (by simp) (show nth [x,y,z,u] 2=0 from Classical.not_not.1 d)];by_cases f:u=0
 ·rw [zcw (by simp) (show nth [x,y,z,u] 3=0 from f),f];exact zou (l:=[x,y,z,0])
 grind [UV,nth]
def yjh (zs:List Int) (g cap:Nat) (w:World) (hn:zs.length<=cap) (n:cap<=9223372036854775807) (d:∀i,i<zs.length->w.cell? (E g i)=Y (nth zs i)) :
  Calls prog 88 #[.slice (pA g) zs.length cap] w fun e w'=>e=.returned (J (zdv zs 0))/\w'=w:=by
 have f:=Z d;clear d;go_enter func88,ntmps88;go_wp2;go_loop [8] (fun i=>∃k:Nat,k<=zs.length/\i=J k/\zdv zs 0=zdv zs k) (fun i=>zs.length - (intOf i).toNat)
 case atStart=>exact⟨0,Ql _,rfl,rfl⟩
 obtain⟨k,p,rfl,c⟩:=hrel;have b:=Z c;clear c;by_cases a:k<zs.length
 ·have m:(k:Int)<(zs.length:Int):=by omega
  have o:=f.out k a;by_cases h0:nth zs k=0
  ·have j:=Z (zcw a h0);have hbb:(nth zs k != 0)=false:=(by simpa using h0);clear h0;go_wp2;go_round
   case rel=>exact⟨k+1,by omega,by go_num,b.out.trans j.out⟩
   simp [intOf];omega
  have l:=Z (UV a h0);have hbb:(nth zs k != 0)=true:=by simpa using h0
  clear h0;go_wp2;go_ret;exact⟨xe (by rw [b.out,l.out]),rfl⟩
 have e:k=zs.length:=by omega
 have h:Hid (zdv zs k=0):=by show zdv zs k=0;rw [e];exact zou
 have m:¬(k:Int)<(zs.length:Int):=by omega
 clear e;go_wp2;go_ret;exact⟨xe (by rw [b.out,h.out]),rfl⟩
set_option maxRecDepth 100000 in
def zlt (b c d f b1 b2 b3 b4:Int) (w:World) :
  Calls prog 48 #[.agg #[J b,J c,J d,J f],.agg #[J b1,J b2,J b3,J b4]] w fun e w'=>e=.returned (J (zbe ⟨b,c,d,f⟩ ⟨b1,b2,b3,b4⟩))/\∃q j,w'=Go.Sort.grow (w.drewN q) j:=by
 have l:Hid (((w.alloc (.cells #[J b,J c,J d,J f] 98)).alloc (.cells #[J b1,J b2,J b3,J b4] 98)).heap.size=w.heap.size+1+1):=by show _=_;simp
 have m:Hid (∀w':World,Below (w.heap.size+1+1) ((w.alloc (.cells #[J b,J c,J d,J f] 98)).alloc (.cells #[J b1,J b2,J b3,J b4] 98)) w'->(w'.cell? (E w.heap.size 0)=Y b/\w'.cell? (E w.heap.size 1)=Y c/\w'.cell? (E w.heap.size 2)=Y d/\w'.cell? (E w.heap.size 3)=Y f)/\(w'.cell? (E (w.heap.size+1) 0)=Y b1/\w'.cell? (E (w.heap.size+1) 1)=Y b2/\w'.cell? (E (w.heap.size+1) 2)=Y b3/\w'.cell? (E (w.heap.size+1) 3)=Y b4)):=by
  intro w' h;have n:Below ((w.alloc (.cells #[J b,J c,J d,J f] 98)).alloc (.cells #[J b1,J b2,J b3,J b4] 98)).heap.size ((w.alloc (.cells #[J b,J c,J d,J f] 98)).alloc (.cells #[J b1,J b2,J b3,J b4] 98)) w':=by rw [l.out];exact h
  refine⟨⟨?_,?_,?_,?_⟩,⟨?_,?_,?_,?_⟩⟩;all_goals rw [ze n _ _ (by rw [l.out];omega)]
  all_goals go_simp
 have k:=Z (yji ⟨b,c,d,f⟩ ⟨b1,b2,b3,b4⟩);simp only at k;go_enter func48,ntmps48;go_wp2;refine rh 99 m.out (zV _ _) fun g=>?_;refine uk2 0 ?_;refine uk2 2 ?_;refine uk2 5 ?_;refine uk2 7 ?_;refine uk2 10 ?_;refine uk2 12 ?_;refine uk2 15 ?_;refine uk2 17 ?_;refine uo 4 fun K a=>?_;go_simp;refine (Va _ _ _).mono ?_;rintro e p ⟨rfl,rfl⟩;refine nxt a.out (.inr g) ?_;clear a K;refine uo 9 fun K a=>?_;go_simp;refine (Va _ _ _).mono ?_;rintro e r ⟨rfl,rfl⟩;refine nxt a.out (.inr g) ?_;clear a K;refine uo 14 fun K a=>?_;go_simp;refine (Va _ _ _).mono ?_;rintro e s ⟨rfl,rfl⟩;refine nxt a.out (.inr g) ?_;clear a K;refine uo 19 fun K a=>?_;go_simp;refine (Va _ _ _).mono ?_;rintro e t ⟨rfl,rfl⟩;refine nxt a.out (.inr g) ?_;clear a K;refine uo 20 fun K a=>?_;go_simp;have g:=m.out _ ((zV (w.heap.size+1+1) ((w.alloc (.cells #[J b,J c,J d,J f] 98)).alloc (.cells #[J b1,J b2,J b3,J b4] 98))).trans ((Qd ((w.alloc (.cells #[J b,J c,J d,J f] 98)).alloc (.cells #[J b1,J b2,J b3,J b4] 98)).drew (.cells #[J (Yi b b1),J (Yi c b2),J (Yi d b3),J (Yi f b4)] 3)).mono (by simp)));refine nxt a.out (.inr g) ?_;clear a K;refine uo 21 fun K a=>?_;go_simp;refine (yjh [Yi b b1,Yi c b2,Yi d b3,Yi f b4] (w.heap.size+1+1) 4 _ (by simp) (by decide) (fun i hi=>?_)).mono ?_
 ·have o:i=0\/i=1\/i=2\/i=3:=by grind
  rcases o with rfl | rfl | rfl | rfl;all_goals go_simp
  all_goals rfl
 rintro e u ⟨rfl,rfl⟩;refine nxt a.out (.inr g) ?_;clear a K;refine uk 22 ?_;refine rd ?_;clear g;go_wp2;go_ret;refine⟨xe k.out,1,#[(.cells #[J b,J c,J d,J f] 98),(.cells #[J b1,J b2,J b3,J b4] 98),(.cells #[J (Yi b b1),J (Yi c b2),J (Yi d b3),J (Yi f b4)] 3)],?_⟩;rfl
def ErV.holds [Inhabited Ed] (h:ErV w g d):Go.Sort.HoldsK zY 4 w g 0 d:=by
 intro t b;have a:t<d.size*4:=by simpa using b
 have h1:=h (t / 4) (by omega) (t % 4) (by omega);rw [show t / 4*4+t % 4=t by omega] at h1;rw [QO,Go.Sort.get_flatK _ _ _ _ a];grind [zY]
def ErV.of_holds [Inhabited Ed] (h:Go.Sort.HoldsK zY 4 w g 0 d):ErV w g d:=by intro i hi j a;have h1:=h.cell (i:=i) (c:=j) hi a;rw [QO] at h1;refine⟨?_,h1.2⟩;rw [h1.1,Qh (show j<(zY d[i]!).length by show j<4;omega),getElem!_pos (zY d[i]!) j (show j<(zY d[i]!).length by show j<4;omega)]
def ErV.of_own [Inhabited Ed] {cap:Nat} {l:List Ed} (h:w.ownsRow B e 4 (.slice (pA g) n cap) n (yI l)) (hn:l.length=n):ErV w g l.toArray/\B<=g/\g<w.heap.size/\n<=cap/\cap<=maxLen:=by
 obtain⟨r,h⟩:=h;rcases h with ⟨h,-⟩ | ⟨p,c',b,o,f,hb,c,hm,q,m⟩
 ·simp_all
 injection o with e1 e2 e3;injection e1 with e1;injection e1 with e1;subst e1;subst e3;refine⟨fun i hi j k=>?_,f,(lo hb),c,hm⟩;have a:i<l.length:=by omega
 have d:l.toArray[i]! = zJ l i:=by grind [zJ]
 refine⟨?_,?_⟩
 ·rw [Qa hb,d,<-zwr l i j a k,<-m,We,Qf (by omega)];simp
 simp [World.frozen?,hb]
theorem zqv [Inhabited Ed] {os:Array Obj} (hB:B<=g) (a:g<w.heap.size):Below B w (sortWorldK zY 4 w g 0 n d os):=by
 refine⟨rfl,rfl,rfl,?_,fun k b=>?_⟩
 ·exact size_sortWorldK_c zY 4 w g 0 n d os
 show ((w.heap.modify g _)++os)[k]?=_;grind
def yj7 (x:Ed):ltOf zbe x x=false:=by unfold ltOf;exact Qk (fun h=>zci x (V9.1 h))
def ykh (x y z:Ed) (h1:ltOf zbe x y=true) (a:ltOf zbe y z=true):ltOf zbe x z=true:=by
 unfold ltOf at *
 grind [V9,zk2]
def yj8 (x y z:Ed) (h1:ltOf zbe x y=false) (a:ltOf zbe y z=false):ltOf zbe x z=false:=by
 unfold ltOf at *
 grind [yj6,V9]
def yl3:Go.Sort.SWO (ltOf zbe):=⟨yj7,ykh,yj8⟩
def zt2 [Inhabited Ed] (d:Array Ed) (g cap B:Nat) (w:World) (f:ErV w g d) (hB:B<=g) (k:g<w.heap.size) (s:d.size<=300) :
  Calls prog 47 #[.slice (pA g) d.size cap,.func (.func 48) #[] #[]] w fun e w'=>e=.returned (.tuple #[])/\∃d':Array Ed,d'.size=d.size/\d'.toList.Perm d.toList/\(∀i j,i<j->j<d'.size->¬ltE d'[j]! d'[i]!)/\ErV w' g d'/\Below B w w'/\w.heap.size<=w'.heap.size:=by
 have p:∀args w,(callFunc 48 args).run prog w=.ok (.enter 48 args) w:=enters_of func48 (by kernel_rfl) rfl;have o:CmpLays prog 48 #[] zY 4 zbe g 0 d.size w:=fun _ _ _ _ x y=>zlt x.fr x.to x.bk x.wt y.fr y.to y.bk y.wt _;have m:=AnyQ.slices_SortFunc Tryz.sortE 4 Tryz.isAgg98 Tryz.sizeOf98 zY (fun _=>rfl) (fun x v c=>by unfold zY at c;simp at c;rcases c with rfl | rfl | rfl | rfl <;> rfl) zbe yl3 48 #[] g 0 cap d w p o f.holds k (by omega);refine m.mono fun e w' ⟨q,d',n,os,a,hs,l⟩=>⟨q,d',a.1,?_,?_,?_,?_,?_⟩
 ·have h:=a.2.2;rw [qp (by rw [a.1];exact Qc _),qp (Qc _)] at h;exact h
 ·intro i j b r h;have:=hs i j (Ql _) b (by rw [<-a.1];exact r);unfold ltOf at this;grind [V9]
 ·rw [l];exact ErV.of_holds (holdsK_sortWorldK_c zY 4 w g 0 d d' n os f.holds k a.1)
 ·grind [zqv]
 rw [l];exact size_sortWorldK_c zY 4 w g 0 n d' os
def zyy (p:Option Addr) (cap:Nat) (fv:Value) (w:World):Calls prog 47 #[.slice p 0 cap,fv] w fun e w'=>e=.returned (.tuple #[])/\w'=w :=
 AnyF.slices_SortFunc_none Tryz.sortE p cap fv w
def zls (p:Option Addr) (cap:Nat) (w:World) (hm:cap<=9223372036854775807):Calls prog 49 #[.slice p 0 cap] w fun e w'=>e=.returned (.slice p 0 cap)/\w'=w:=by go_enter func49,ntmps49;go_wp2;go_ret;exact⟨rfl,rfl⟩
def zrd {L:Lp} {t:Tg} (hm:zQ L=true) (r:zS t=true) (B:Nat) (v:Value) (w:World) (h:w.ownsRow B 98 4 v (zd8 L t).length (yI (zd8 L t))) :
  Calls prog 47 #[v,.func (.func 48) #[] #[]] w fun e w'=>e=.returned (.tuple #[])/\Below B w w'/\Calls prog 49 #[v] w' fun e w2=>∃a n c,e=.returned (.slice a n c)/\ZD w2 (.slice a n c) (zf L t)/\Below B w' w2:=by
 have:Inhabited Ed:=⟨Ed.nil⟩;have:DecidableEq Ed:=fun a b=>Classical.propDecidable _;have hlen:=ztv (L:=L) (t:=t) (zy hm).2.2.1;obtain⟨a,c,rfl,P,u⟩:=zD h;unfold maxLen at u;cases a with
 | none =>
  obtain⟨q,rfl,S⟩:=YL h;rw [q];have F:zd8 L t=[]:=Wi.1 q;have f:zf L t=[]:=by
   cases G:zf L t with
   | nil=>rfl
   | cons x l=>exact absurd ((ztw hm r x).2 (by rw [G];simp)) (by rw [F];simp)
  refine (zyy none 0 _ w).mono fun e w' ⟨d,k⟩=>⟨d,by rw [k];exact QA _ _,?_⟩;refine (zls none 0 w' (by omega)).mono fun e w2 ⟨d,k⟩=>⟨none,0,0,d,?_,by rw [k];exact QA _ _⟩;rw [f];exact⟨none,0,rfl,Qc _,Ql _,fun h=>absurd h (by simp)⟩
 | some E =>
  obtain⟨g,rfl⟩:=Yq h;obtain⟨I,hB,K,-,-⟩:=ErV.of_own h rfl;have hs:(zd8 L t).toArray.size=(zd8 L t).length:=by simp
  have o:=zt2 (zd8 L t).toArray g c B w I hB K (by rw [hs];omega);rw [hs] at o;refine o.mono fun e w' ⟨d,d',s,N,z,A,hb,Q⟩=>⟨d,hb,?_⟩;have p:compactUpTo d' d'.size=zf L t:=zr3 hm r d' N z;have m:=zin g c B d' w' A hB (by omega) (by omega) (by omega) (by omega);rw [p,s] at m;refine m.mono fun e w2 ⟨D,C,y,O⟩=>⟨_,_,_,D,?_,y⟩;have R:(zf L t).length<=(zd8 L t).length:=by rw [<-p,<-s];unfold compactUpTo;grind
  refine⟨_,_,rfl,by omega,by unfold maxLen;omega,fun _=>⟨g,0,rfl,by omega,fun i hi j M=>?_⟩⟩;have H:=(C i (by omega) j M).1;rw [QO,H];have f:(zf L t).toArray[i]! = zJ (zf L t) i:=by rw [getElem!_pos _ i (by omega)];unfold zJ;rw [Qw,Qh hi];simp
  rw [f]
set_option maxRecDepth 100000 in
def zwg (T:Tg) (L:Lp) (a0 m:Option Addr) (g b d k p:Nat) (w:World) (hL:zI w ((lv L a0 (some (E b d)) m g k p)) L) (hm:zQ L=true) (S:zS T=true) (dn:L.l.length<=g) (dr:g<=9223372036854775807) (cF:L.b.length<=k) (cG:k<=9223372036854775807) (hb:b<w.heap.size)
  (gQ:∀i,i<L.b.length->∀j,j<9->w.cell? (E b (d+i*9+j))=(zG (zc L.b i))[j]?) (ay:zM w (.slice a0 L.l.length g) L.l) :
  Calls prog 22 #[(lv L a0 (some (E b d)) m g k p),(tV T)] w fun e w'=>∃a n c,e=.returned (.tuple #[.slice a n c,J 0])/\ZD w' (.slice a n c) (zf L T)/\Bw w w':=by
 have HT:=Z (fun W=>S ▸ Y8 T W);have G:=(zy hm).2.2.1;have cX:=Z (fun W (A:Bw w W)=>ziw T L b d k (.slice a0 L.l.length g) (.slice m L.o.length p) W cF cG (by have:=A.size;omega) (fun i hi j hj=>by grind [ze]) hm G);have df:=Z (fun W (A:Bw w W)=>zid L a0 g b d k (.slice m L.o.length p) W dn dr cF cG (by have:=A.size;omega) (fun i hi j hj=>by grind [ze]) (ay.gE A) hm G);have aS:=Z (fun B v W h=>zrd (L:=L) (t:=T) hm S B v W h);have cW:=Z (ztv (L:=L) (t:=T) G);have bQ:Hid (zd8 L T=Yt L T L.b.length++xI L L.b.length):=rfl;have cU:Hid ((Yt L T L.b.length).length+(xI L L.b.length).length<=300):=by show _<=_;have h:=cW.out;rw [bQ.out,Qt] at h;omega
 clear S gQ ay;have HM:=Z (fun W (h:zI W ((lv L a0 (some (E b d)) m g k p)) L)=>hm ▸ Yo ((lv L a0 (some (E b d)) m g k p)) L W h);have X:Hid (((w.alloc (lC L a0 (some (E b d)) m g k p)).alloc (tO T)).heap.size=w.heap.size+1+1):=by show _=_;simp
 clear hm;go_enter func22,ntmps22;go_wp2_with fail;refine (HM.out _ (hL.gE (QB _ _ _))).mono ?_;rintro e x1 ⟨rfl,hb⟩;have ac:Hid (Below (w.heap.size+1+1) ((w.alloc (lC L a0 (some (E b d)) m g k p)).alloc (tO T)) x1):=by simp_all
 obtain⟨⟨l0,l1,l2⟩,⟨t0,t1,t2,t3,t4,t5,t6⟩,z0,z1,u⟩:=ZG ac.out;have cg:=Z u;clear hb u;go_wp2_with fail;refine (HT.out _).mono ?_;rintro e x2 ⟨rfl,C⟩;have H:=Z (ac.out.trans (C.mono (by omega)));have D:=Z (cg.out.trans (C.mono cg.out.size));clear C l0 l1 l2 t0 t1 t2 t3 t4 t5 t6;have s:Hid (∀w':World,Below (w.heap.size+1+1) ((w.alloc (lC L a0 (some (E b d)) m g k p)).alloc (tO T)) w'->(w'.cell? (E w.heap.size 0)=some (.slice a0 L.l.length g)/\w'.cell? (E w.heap.size 1)=some (.slice (some (E b d)) L.b.length k)/\w'.cell? (E w.heap.size 2)=some (.slice m L.o.length p))/\(w'.cell? (E (w.heap.size+1) 0)=Y T.u0/\w'.cell? (E (w.heap.size+1) 1)=Y T.u1/\w'.cell? (E (w.heap.size+1) 2)=Y T.u2/\w'.cell? (E (w.heap.size+1) 3)=Y T.w0/\w'.cell? (E (w.heap.size+1) 4)=Y T.w1/\w'.cell? (E (w.heap.size+1) 5)=Y T.w2/\w'.cell? (E (w.heap.size+1) 6)=Y T.r)):=by intro w' h;obtain⟨h1,h2,-⟩:=ZG h;exact⟨h1,h2⟩
 have aA:w.heap.size+1+1<=x2.heap.size:=by have:=H.out.size;simp_all
 go_wp2_with fail;refine Qq ?_;refine zg 99 (fun w'=>(w'.cell? (E w.heap.size 0)=some (.slice a0 L.l.length g)/\w'.cell? (E w.heap.size 1)=some (.slice (some (E b d)) L.b.length k)/\w'.cell? (E w.heap.size 2)=some (.slice m L.o.length p))/\(w'.cell? (E (w.heap.size+1) 0)=Y T.u0/\w'.cell? (E (w.heap.size+1) 1)=Y T.u1/\w'.cell? (E (w.heap.size+1) 2)=Y T.u2/\w'.cell? (E (w.heap.size+1) 3)=Y T.w0/\w'.cell? (E (w.heap.size+1) 4)=Y T.w1/\w'.cell? (E (w.heap.size+1) 5)=Y T.w2/\w'.cell? (E (w.heap.size+1) 6)=Y T.r)) (by kernel_rfl) (s.out _ (H.out.trans (zV _ _))) (fun q=>?_);refine uk2 0 ?_;refine uk 3 ?_;refine zb (i:=2) rfl (by kernel_rfl) (fun K f=>?_);go_simp;refine (cX.out _ (D.out.trans (zV _ _))).mono ?_;rintro e x3 ⟨ev1,rfl,M,Q⟩;have O:=H.out.trans ((zV _ _).trans (Q.mono (by simpa using aA)));have aG:=Z O;have F:=Z (D.out.trans ((zV _ _).trans (Q.mono (by simpa using D.out.size))));have q:=s.out _ O;obtain⟨ra,rc,rfl,-,-⟩:=zD M;have ag:=Z M;clear M Q O;refine nxt f.out (.inr q) ?_;clear f K;refine zb (i:=4) rfl (by kernel_rfl) (fun K f=>?_);go_simp;refine (df.out _ F.out).mono ?_;rintro e x ⟨ev2,rfl,N,z⟩;have dA:w.heap.size+1+1<=x3.heap.size:=by have:=aG.out.size;rw [X.out] at this;exact this
 have P:=aG.out.trans (z.mono dA);have bR:=Z P;have cu:=Z (F.out.trans (z.mono F.out.size));have q:=s.out _ P;obtain⟨U,V,rfl,-,-⟩:=zD N;have aC:=Z N;have aU:=Z (zp ag.out z);clear N z P;refine nxt f.out (.inr q) ?_;clear f K;have bT:=Z (zr4 (Yt L T L.b.length) (xI L L.b.length) x.heap.size _ _ _ _ (x.alloc (.cells #[.slice ra (Yt L T L.b.length).length rc,.slice U (xI L L.b.length).length V] 68)) (by go_simp) (by go_simp) (by simp) (zp aU.out (Qd _ _)) (zp aC.out (Qd _ _)) cU.out);have y:=Z (cu.out.trans ((Qd x (.cells #[.slice ra (Yt L T L.b.length).length rc,.slice U (xI L L.b.length).length V] 68)).mono cu.out.size));have dB:w.heap.size+1+1<=x.heap.size:=by have:=bR.out.size;rw [X.out] at this;exact this
 have bS:=Z (bR.out.trans ((Qd x (.cells #[.slice ra (Yt L T L.b.length).length rc,.slice U (xI L L.b.length).length V] 68)).mono dB));rw [<-bQ.out] at bT;refine zb (i:=5) rfl (by kernel_rfl) (fun K f=>?_);go_simp;have q:=s.out _ bS.out;refine nxt f.out (.inr q) ?_;clear f K;refine zb (i:=6) rfl (by kernel_rfl) (fun K f=>?_);go_simp;refine bT.out.mono ?_;rintro e x6 ⟨ev3,rfl,cH,R⟩;have cw:=bS.out.trans (R.mono (by simp;omega));have cY:=Z (y.out.trans (R.mono y.out.size));have q:=s.out _ cw;have HD:=Z (aS.out _ _ _ cH);clear cH R cw;refine nxt f.out (.inr q) ?_;clear f K;refine uk 7 ?_;refine zj (by kernel_rfl) ?_ _;refine Qs ?_;clear q;go_wp2_with fail;refine HD.out.mono ?_;rintro e x7 ⟨rfl,I,aj⟩;have dC:=Z I;have cN:=Z aj;have cZ:=Z (cY.out.trans (I.mono y.out.size));clear I aj;go_wp2_with fail;refine cN.out.mono ?_;rintro e x8 ⟨ea,en,ec,rfl,cD,cA⟩;have cO:=Z cD;have de:=Z (cZ.out.trans (cA.mono y.out.size));clear cD cA;go_wp2_with fail;exact bodyPost_ret (v:=.tuple #[.slice ea en ec,J 0]) (by simp [results,results22,go_sem]) rfl ⟨ea,en,ec,rfl,cO.out,de.out⟩
def VB:Zj:=fun v t L w f a=>by
 obtain⟨g,p1,p2,h,i,j,r⟩:=t
 have m:=f
 obtain⟨v0,A,v2,rfl,d,⟨z,o,rfl,h1,s,u⟩,⟨k,p,rfl,-,-,-,-⟩⟩:=m
 have l:=d
 obtain⟨a0,n,rfl,k1,y,-,-⟩:=l
 unfold maxLen at s y
 obtain⟨hm,x⟩:zQ L=true/\zS ⟨g,p1,p2,h,i,j,r⟩=true:=by simpa using a
 obtain⟨b,c,rfl,hb,q⟩:=u (by grind [zy])
 exact zwg ⟨g,p1,p2,h,i,j,r⟩ L a0 k n b c o p w f hm x k1 (by omega) h1 (by omega) hb q d
end
section
variable {t:Tg}
def zsr (n:Nat) (p:Int) (r:Nat) (la:Option Addr) (lc:Nat) (l:List Ed) (w0 w:World) (hE:ZD w0 (.slice la l.length lc) l) (hl:∀e∈l,zio n e) (hn:n<=16) (hr:r<=16) (cw:1<=p) (bE:p<=100) (hlen:l.length<=60000)
  (bT:Bw w0 w) (U:zr w w0.heap.size 3 n (fun v=>J (zt p l r v))) :
  Calls prog 142 #[.slice (pA w0.heap.size) n n,.slice la l.length lc,J p] w fun e w'=>e=.returned (.bool (!ZS p l (zt p l r)))/\Bw w0 w'/\zr w' w0.heap.size 3 n (fun v=>J (zt p l (r+1) v)):=by
 obtain⟨la',lc',de,dL,df,bZ⟩:=hE;injection de with e1 e2 e3;subst e1;subst e3;unfold maxLen at df;have cH:=Z bZ;have C:=Z hl;have X:=Z bT;have bO:=Z U;clear bZ hl e2 bT U;go_enter func142,ntmps142;go_wp2;go_loopw [7,13] (fun st i wr=>∃k:Nat,k<=l.length/\i=J k/\st=.bool (!zF (fun j=>okE p (zt p l r) (zJ l j)) k)/\Bw w0 wr/\zr wr w0.heap.size 3 n (fun v=>J (yR p l (zt p l r) k v))) (fun _ i _=>l.length - (intOf i).toNat)
 case atStart=>exact⟨0,Ql _,rfl,rfl,X,bO⟩
 obtain⟨k,hk,rfl,rfl,s,f⟩:=hrel;clear X bO;by_cases y:k<l.length
 ·have bz:(k:Int)<(l.length:Int):=by omega
  obtain⟨eb,eo,rfl,bg,V⟩:=cH (by omega);obtain⟨N,O,P,Q⟩:=zo0 (V k y);rw [<-ze s _ _ bg] at N O P Q;have bY:eb<wr.heap.size:=by have:=s.size;omega
  obtain⟨fr,to,bk,wt,ce,cg,cB,dI,dT⟩:=C _ (Vb y);have G:Hid (∀b,zF (fun j=>okE p (zt p l r) (zJ l j)) k=b->zF (fun j=>okE p (zt p l r) (zJ l j)) (k+1)=(b && okE p (zt p l r) (zJ l k))):=fun b h=>by grind [zF]
  have W:=Z (fun h=>zy4 (p:=p) (l:=l) (a:=zt p l r) k (by omega) h);have z:Hid (yR p l (zt p l r) (k+1)=V0 p (yR p l (zt p l r) k) (zJ l k)):=rfl;have M:=zki (p:=p) (l:=l) (a:=zt p l r) (by omega) C (zsl (by omega) C r) k hk;have L:=fun v=>yd7 (p:=p) (l:=l) r k v;have dA:r*l.length<=16*60000:=Nat.mul_le_mul (by omega) hlen;rw [ce] at N O P Q G z;simp only at N O P Q;have bV:=f.cell cg;have bW:=f.cell cB;have dN:=f.frozen to;have dU:=f.lt;have H:=M fr;have I:=L fr;have K:=M to;have F:=L to;have u:=Z f;have g:=Z s;have d:Hid (zF (fun j=>okE p (zt p l r) (zJ l j)) k=true->okE p (zt p l r) ⟨fr,to,bk,wt⟩=decide (yR p l (zt p l r) k fr+((wt:Int) - p*(bk:Int))<=yR p l (zt p l r) k to)):=fun h=>by rw [W h];rfl
  have o:Hid (V0 p (yR p l (zt p l r) k) ⟨fr,to,bk,wt⟩=if yR p l (zt p l r) k to<yR p l (zt p l r) k fr+((wt:Int) - p*(bk:Int)) then (fun v=>if v=to then yR p l (zt p l r) k fr+((wt:Int) - p*(bk:Int)) else yR p l (zt p l r) k v) else yR p l (zt p l r) k):=rfl;obtain⟨A,cY⟩:=nm (yR p l (zt p l r) k);rw [cY] at bV bW H I K F u d o z;obtain⟨t,q⟩:∃b,zF (fun j=>okE p (zt p l r) (zJ l j)) k=b:=⟨_,rfl⟩;have S:=Z (G t q);rw [q] at d;rw [q];obtain⟨xf,dD⟩:∃x,A fr=x:=⟨_,rfl⟩;obtain⟨R,dE⟩:∃x,A to=x:=⟨_,rfl⟩;rw [dD] at bV H I d o;rw [dE] at bW K F d o;have aL:0<=p*(bk:Int):=Ws (by omega) (by omega);have aM:p*(bk:Int)<=100*32:=Wy bE (by omega) (by omega) (by omega);rw [Er p (bk:Int)] at aL aM d o;have dM:(fr:Int)<(n:Int):=by omega
  have dQ:(to:Int)<(n:Int):=by omega
  obtain⟨m,dO⟩:=nm (xf+(wt:Int) - (bk:Int)*p);have T:xf+((wt:Int) - (bk:Int)*p)=m:=by omega
  rw [T] at d o;have dh:-10000<=m/\m<=100000000:=by omega
  obtain⟨di,dj⟩:=dh;clear V ce f s M L W G H I K F T;by_cases c:R<m
  ·have bI:decide (R<m)=true:=Qi c;have D:Hid (yR p l (zt p l r) (k+1)=fun v=>if v=to then m else A v):=(by show _=_;rw [z,o,Qf c]);have B:Hid (zF (fun j=>okE p (zt p l r) (zJ l j)) (k+1)=false):=by
    show _=_;rw [S];cases t with
    | false=>rfl
    | true=>rw [d rfl,Qk (by omega)];rfl
   go_wp2;go_big_quiet ((fail));go_wp2;go_roundw
   case rel =>
    refine⟨k+1,by omega,by go_num,by rw [B];rfl,?_,?_⟩
    ·exact ((g.alloc g.size _).trans (Qm _ _ _ |>.mono (by have:=g.size;simp;omega))).setCell (Qc _) _
    rw [D];have h:=((u.alloc (.cells #[J fr,J to,J bk,J wt] 98)).drawn nq).set to (J m) cB;grind
   simp [intOf];omega
  have bI:decide (R<m)=false:=Qk c;have D:Hid (yR p l (zt p l r) (k+1)=A):=by show _=_;rw [z,o,Qe c]
  have B:Hid (zF (fun j=>okE p (zt p l r) (zJ l j)) (k+1)=t):=by
   show _=_;rw [S];cases t with
   | false=>rfl
   | true=>rw [d rfl,Qi (by omega)];rfl
  go_wp2;go_big_quiet ((fail));go_wp2;go_roundw
  case rel =>
   refine⟨k+1,by omega,by go_num,by rw [B],?_,?_⟩
   ·exact (g.alloc g.size _).trans (Qm _ _ _ |>.mono (by have:=g.size;simp;omega))
   rw [D];exact (u.alloc (.cells #[J fr,J to,J bk,J wt] 98)).drawn nq
  simp [intOf];omega
 have e:k=l.length:=by omega
 subst e;have bz:¬(l.length:Int)<(l.length:Int):=by omega
 have g:=Z s;have u:=Z f;have bP:Hid (ZS p l (zt p l r)=zF (fun j=>okE p (zt p l r) (zJ l j)) l.length):=rfl;obtain⟨t,q⟩:∃b,zF (fun j=>okE p (zt p l r) (zJ l j)) l.length=b:=⟨_,rfl⟩;rw [q] at bP ⊢;clear q s f;have cO:Hid ((!t)=!ZS p l (zt p l r)):=by show _=_;rw [bP]
 go_wp2;go_ret;exact⟨zi cO,g,u⟩
def zph (n:Nat) (p:Int) (h:Option Addr) (j:Nat) (l:List Ed) (w:World) (z:ZD w (.slice h l.length j) l) (A:∀e∈l,zio n e) (hn:n<=16) (K:1<=p) (H:p<=100) (hlen:l.length<=60000) :
  Calls prog 91 #[.slice h l.length j,J n,J p] w (Rt w (.bool (VP n l p))):=by
 have M:=run_make_row' (P:=prog) 34 3 (J 0) 8 underlying34 Tryz.j3 rfl .i64 .i64 n (by omega) (by omega);have m:Hid (zr (w.alloc (.cells (madeCells #[J 0] n) 3)) w.heap.size 3 n (fun v=>J (zt p l 0 v))):=zr.zeros w _ n _;go_enter func91,ntmps91;go_wp2;have G:=Z (fun (r:Nat) (hr:r<=16) (W:World) (hb:Bw w W) (F:zr W w.heap.size 3 n (fun v=>J (zt p l r v)))=>zsr n p r h j l w W z A hn hr K H hlen hb F);clear z A;go_loopw [11] (fun i wr=>∃r:Nat,r<=n/\i=J r/\(∀q,q<r->ZS p l (zt p l q)=false)/\Bw w wr/\zr wr w.heap.size 3 n (fun v=>J (zt p l r v))) (fun i _=>n - (intOf i).toNat)
 case atStart=>exact⟨0,by omega,rfl,fun q B=>absurd B (Qv _),Qd _ _,m⟩
 clear m M;obtain⟨r,hr,rfl,t,x,y⟩:=hrel;have u:=Z t;have o:=Z x;have N:=Z y;clear t y x;by_cases g:r<n
 ·have L:(r:Int)<(n:Int):=by omega
  have c:=Z (G r (by omega) wr o N);obtain⟨st,f⟩:∃b,ZS p l (zt p l r)=b:=⟨_,rfl⟩;rw [f] at c;have s:=Z f;clear f;cases st with
  | true =>have D:Hid (VP n l p=true):=ZX (k:=r) g s;go_wp2_with fail;refine c.mono ?_;rintro e O ⟨rfl,hb,a⟩;have d:=Z hb;clear hb a;go_wp2;go_ret;exact⟨zi D.symm,d⟩
  | false =>
   go_wp2_with fail;refine c.mono ?_;rintro e O ⟨rfl,hb,a⟩;have d:=Z hb;have I:=Z a;clear hb a;go_wp2;go_roundw
   case rel =>
    refine⟨r+1,by omega,by go_num,fun q B=>?_,d,I⟩;by_cases e:q=r
    ·rw [e];exact s
    exact u q (by omega)
   simp [intOf];omega
 have e:r=n:=by omega
 subst e;have L:¬(r:Int)<(r:Int):=by omega
 have C:Hid (VP r l p=false):=zwi u;go_wp2;go_ret;exact⟨zi C.symm,o⟩
def zlq (L:Lp) (c k:Nat):Nat:=cnt (fun i=>decide (ye (zc L.b i).o=(c:Int))) k
theorem yam (L:Lp) (c:Nat):zlq L c L.b.length=Xy L c:=rfl
def yfd (L:Lp) (c k:Nat):zlq L c k<=k:=U5 _ _
def zvy (L:Lp) (c k a:Nat) (h:ye (zc L.b k).o=(a:Int)):zlq L c (k+1)=if c=a then zlq L a k+1 else zlq L c k:=by
 grind [zlq,cnt]
def zth {t:Tg} {g:Nat} {wr:World} {c:Nat} (b:c<3) (h0:wr.cell? (E g 0)=Y t.u0) (h1:wr.cell? (E g 1)=Y t.u1) (a:wr.cell? (E g 2)=Y t.u2):wr.cell? (E g c)=Y (yf t c):=by
 obtain rfl | rfl | rfl:c=0\/c=1\/c=2:=by omega
 ·exact h0
 ·exact h1
 exact a
def zi6 (h:zS t=true):∀c:Nat,∃u:Nat,yf t c=(u:Int)/\1<=u/\u<=4:=by
 intro c;obtain⟨h1,a,b,-,-⟩:=yi h;have h1:=yG h1;have a:=yG a;have b:=yG b;unfold yf;split
 ·exact⟨t.u0.toNat,by omega,by omega,by omega⟩
 split
 ·exact⟨t.u1.toNat,by omega,by omega,by omega⟩
 exact⟨t.u2.toNat,by omega,by omega,by omega⟩
def zoy {L:Lp} (hb:L.b.length<=16) (a:∀c:Nat,c<3->1<=(yf t c).toNat):∀c,c<=3->1<=zb4 L t c/\zb4 L t c<=16:=by
 intro c;induction c with
 | zero=>intro _;exact⟨Qc _,by show 1<=16;omega⟩
 | succ c ih =>intro g;have h1:=ih (by omega);have d:Xe (Xy L c) (yf t c).toNat<=Xy L c:=(zh1 (a c (by omega))).1 (EW _ (a c (by omega)));have f:Xy L c<=L.b.length:=U5 _ _;show 1<=max (zb4 L t c) (Xe (Xy L c) (yf t c).toNat)/\max (zb4 L t c) (Xe (Xy L c) (yf t c).toNat)<=16;omega
def yci (n u:Nat) (a:1<=u):((n:Int)+(u:Int) - 1).tdiv (u:Int)=(Xe n u:Int):=by
 grind [Xe]
def zi4 (T:Tg) (L:Lp) (v0 v2:Value) (b a cap:Nat) (w:World) (hl:L.b.length<=cap) (hm:cap<=9223372036854775807) (hb:b<w.heap.size) (R:∀i,i<L.b.length->∀j,j<9->w.cell? (E b (a+i*9+j))=(zG (zc L.b i))[j]?) (K:L.b.length<=16) (q:zS T=true) :
  Calls prog 50 #[.agg #[v0,.slice (some (E b a)) L.b.length cap,v2],(tV T)] w (Rt w (J (ZL L T))):=by
 have cF:=Z R;have cW:=Z (zi6 q);have cM:=Z (zoy (L:=L) (t:=T) K (fun c _=>by obtain⟨u,h1,h2,_⟩:=zi6 q c;rw [h1,QL];exact h2));have H:Hid (((w.alloc (.cells #[v0,.slice (some (E b a)) L.b.length cap,v2] 62)).alloc (tO T)).heap.size=w.heap.size+1+1):=by show _=_;simp
 have G:Hid (zr (((w.alloc (.cells #[v0,.slice (some (E b a)) L.b.length cap,v2] 62)).alloc (tO T)).alloc (.cells #[J 0,J 0,J 0] 25)) (w.heap.size+1+1) 25 3 (fun c=>J (zlq L c 0))):=by
  show zr _ _ _ _ _;rw [<-H];exact zr.made _ _ _ 3 _ (by simp) (fun i hi=>by
   obtain rfl | rfl | rfl:i=0\/i=1\/i=2:=by omega
   all_goals rfl)
 clear R q;go_enter func50,ntmps50;go_wp2;go_loopw [15] (fun i wr=>∃k:Nat,k<=L.b.length/\i=J k/\Below (w.heap.size+1+1) ((w.alloc (.cells #[v0,.slice (some (E b a)) L.b.length cap,v2] 62)).alloc (tO T)) wr/\zr wr (w.heap.size+1+1) 25 3 (fun c=>J (zlq L c k))) (fun i _=>L.b.length - (intOf i).toNat)
 case atStart=>exact⟨0,Ql _,rfl,(QA _ _).alloc (by rw [H];omega) _,G⟩
 clear G;obtain⟨k,hk,rfl,n,f⟩:=hrel;have HB:=Z n;have gS:=Z f;obtain⟨⟨l0,l1,l2⟩,⟨A,B,C,V,X,t5,t6⟩,z0,z1,m⟩:=ZG n;have cE:=Z m;have cC:=f.lt;by_cases y:k<L.b.length
 ·have bz:(k:Int)<(L.b.length:Int):=by omega
  obtain⟨c0,c1,c2,c3,c4,c5,c6,c7,c8⟩:=Ue (fun j hj=>(ze m b (a+k*9+j) hb).trans (cF k y j hj));have dJ:b<wr.heap.size:=by omega
  obtain⟨d,x,I⟩:∃d:Nat,ye (zc L.b k).o=(d:Int)/\d<3:=by
   rcases VA (zc L.b k).o with h | h | h
   ·exact⟨0,h,by omega⟩
   ·exact⟨1,h,by omega⟩
   exact⟨2,h,by omega⟩
  have aH:=Z (fun c=>zvy L c k d x);have cG:Hid (∀W,Calls prog 90 #[J (zc L.b k).o] W fun e w'=>e=.returned (J d)/\w'=W):=fun W=>by rw [<-x];exact zah _ _
  have dK:=f.cell I;have cg:=f.frozen d;have dP:=yfd L d k;have dH:Hid (∃F,zc L.b k=F):=⟨_,rfl⟩;generalize zc L.b k=F at *
  obtain⟨o,xa,xb,ya,yb,ar,sp,pl,nn⟩:=F;generalize l:zlq L d k=cc at *
  have dG:=Z l;have cZ:(d:Int)<3:=by omega
  clear n f m x l A B C V X t5 t6 l0 l1 l2;go_wp2_with (go_at_call 90;refine (cG _).mono ?_;rintro e w' ⟨rfl,s⟩;have s:=s.symm;subst s);go_roundw
  case rel =>
   refine⟨k+1,by omega,by go_num,?_,?_⟩
   ·have h1:Below (w.heap.size+1+1) _ (wr.setCell (E (w.heap.size+1+1) d) (J ((cc:Int)+1))):=HB.setCell (Qc _) _;exact h1.alloc (by simp;omega) _
   have h:=(gS.set d (J ((cc:Int)+1)) I).alloc (nB o xa xb ya yb ar sp pl nn);refine h.congr fun v hv=>?_;rw [aH v];by_cases e:v=d
   ·rw [Qf e,Qf e];simp
   rw [Qe e,Qe e]
  simp [intOf];omega
 have e:k=L.b.length:=by omega
 subst e;have bz:¬(L.b.length:Int)<(L.b.length:Int):=by omega
 have U:=f.cell (i:=0) (by omega);have r1:=f.cell (i:=1) (by omega);have r2:=f.cell (i:=2) (by omega);rw [yam] at U r1 r2;have cS:=Z (fun c (p:c<3)=>zth (t:=T) p A B C);have cJ:Hid (∀c:Nat,c<3->∀W:World,(Instr.index 25 (.agg #[J (Xy L 0),J (Xy L 1),J (Xy L 2)]) (J (c:Int))).run prog W=.ok (J (Xy L c)) W):=fun c p W=>by
  obtain rfl | rfl | rfl:c=0\/c=1\/c=2:=by omega
  all_goals kernel_rfl
 clear n f m A B C V X t5 t6 l0 l1 l2;go_wp2;go_loopw [8,28] (fun pv i D=>∃c:Nat,c<=3/\i=J c/\pv=J (zb4 L T c)/\D=wr) (fun _ i _=>3 - (intOf i).toNat)
 case atStart=>exact⟨0,by omega,rfl,rfl,rfl⟩
 obtain⟨c,p,rfl,rfl,rfl⟩:=hrel;have O:=cM c p;by_cases g:c<3
 ·have cZ:(c:Int)<3:=by omega
  have dC:=cS c g;have dm:=cJ c g;obtain⟨u,z,r,dR⟩:=cW c;rw [z] at dC;have M:Hid (zb4 L T (c+1)=max (zb4 L T c) (Xe (Xy L c) u)):=by show max _ (Xe (Xy L c) (yf _ c).toNat)=_;rw [z,QL]
  have N:Xy L c<=16:=QH (U5 _ _) K;have dw:=yci (Xy L c) u r;have dt:Xe (Xy L c) u<=16:=QH ((zh1 r).1 (EW _ r)) N;generalize Xe (Xy L c) u=S at *
  have dS:wrap64 (S:Int)=(S:Int):=by unfold wrap64;omega
  obtain⟨nc,P⟩:=nm (Xy L c);rw [P] at dm N dw;obtain⟨pa,Q⟩:=nm (zb4 L T c);rw [Q] at M O ⊢;obtain⟨aL,aM⟩:=O;clear P z Q U r1 r2;go_wp2;go_roundw
  case rel =>refine⟨c+1,by omega,by go_num,?_,trivial⟩;rw [M];congr 1;first | omega | (split <;> omega)
  simp [intOf];omega
 have e:c=3:=by omega
 subst e;go_wp2;go_ret;exact⟨rfl,cE⟩
def zhp (t:Tg) (L:Lp) (ea:Option Addr) (ec:Nat) (w:World) (v:ZD w (.slice ea (zf L t).length ec) (zf L t)) (hm:zQ L=true) :
  Calls prog 51 #[.slice ea (zf L t).length ec,J L.b.length] w (Rt w (J (xS L t))):=by
 obtain⟨-,h1,j,-⟩:=zy hm;have hlen:(zf L t).length<=60000:=by have:=yg1 L t L.b.length j;have a:L.b.length*3696<=16*3696:=EI _ j;show (frD L t L.b.length).length<=60000;omega
 have C:Hid (∀e∈zf L t,zio L.b.length e):=fun e m=>by obtain⟨fr,to,bk,wt,h0,h1,a,u,F,G⟩:=ZW hm e m;exact⟨fr,to,bk,wt,h0,h1,a,G,F⟩
 have B:Hid (∀e∈zf L t,e.fr.toNat<L.b.length/\e.to.toNat<L.b.length):=fun e m=>by obtain⟨fr,to,bk,wt,rfl,h1,a,-⟩:=ZW hm e m;simp_all
 have y:=Z (fun q h1 a u=>zpc (L:=L) (t:=t) (q:=q) hm h1 a u);have A:=Z (fun q h=>zyp (L:=L) (t:=t) hm (q:=q) h);have z:=Z v;clear v hm;generalize zf L t=f at *
 go_enter func51,ntmps51;go_wp2;go_loopw [5] (fun n wr=>∃q:Nat,n=J q/\1<=q/\(∀c:Nat,1<=c->c<q->xC L.b.length f c=false)/\Bw w wr) (fun n _=>100 - (intOf n).toNat)
 case atStart=>exact⟨1,rfl,Qc _,fun c h1 a=>absurd a (by omega),QA _ _⟩
 obtain⟨q,rfl,D,g,l⟩:=hrel;have I:=A q g;have o:=Z g;have p:=Z l;obtain⟨rb,k⟩:∃b,xC L.b.length f (q:Int)=b:=⟨_,rfl⟩;have r:Hid (Calls prog 91 #[.slice ea f.length ec,J L.b.length,J q] wr (Rt wr (.bool rb))):=by show Calls _ _ _ _ _;rw [<-k,<-zhs h1 B];exact zph L.b.length q ea ec f wr (z.gE l) C j (by omega) (by omega) hlen
 have s:=Z k;clear g l k;cases rb with
 | true =>have x:=Z (y q D s o);go_wp2_with fail;refine r.mono ?_;rintro e H ⟨rfl,d⟩;have i:=Z (p.tm d);clear d;go_wp2;go_ret;exact⟨xe (by rw [x]),i⟩
 | false =>
  go_wp2_with fail;refine r.mono ?_;rintro e H ⟨rfl,d⟩;have i:=Z (p.tm d);clear d;go_wp2;go_roundw
  case rel =>
   refine⟨q+1,by go_num,by omega,fun c h1 a=>?_,i⟩;by_cases e:c=q
   ·rw [e];exact s
   exact o c h1 (by omega)
  simp [intOf];omega
set_option maxRecDepth 100000 in
def zvq (hE:Zj) (t:Tg) (L:Lp) (a0 f:Option Addr) (g b a c k:Nat) (w:World) (hL:zI w ((lv L a0 (some (E b a)) f g c k)) L) (hm:zQ L=true) (z:zS t=true) (V:L.b.length<=c) (X:c<=9223372036854775807) (hb:b<w.heap.size)
  (gQ:∀i,i<L.b.length->∀j,j<9->w.cell? (E b (a+i*9+j))=(zG (zc L.b i))[j]?) :
  Calls prog 23 #[(lv L a0 (some (E b a)) f g c k),(tV t)] w (Rt w (.tuple #[J (ZL L t),J (xS L t),J 0])):=by
 have O:=(zy hm).2.2.1;have H:=Z (fun W (h:zI W ((lv L a0 (some (E b a)) f g c k)) L)=>hE ((lv L a0 (some (E b a)) f g c k)) t L W h (by rw [hm,z];rfl));have R:=Z (fun W (hW:Bw w W)=>zi4 t L (.slice a0 L.l.length g) (.slice f L.o.length k) b a c W V X (by have:=hW.size;omega) (fun i hi j hj=>by grind [ze]) O z);have I:=Z (fun ea ec W h=>zhp t L ea ec W h hm);have A:Hid (((w.alloc (lC L a0 (some (E b a)) f g c k)).alloc (tO t)).heap.size=w.heap.size+1+1):=by show _=_;simp
 clear hm z gQ;generalize ZL L t=ub at *
 generalize xS L t=rb at *
 go_enter func23,ntmps23;go_wp2_with fail;refine (H _ (hL.gE (QB _ _ _))).mono ?_;rintro e G ⟨ea,en,ec,rfl,y,F⟩;have p:Hid (Below (w.heap.size+1+1) ((w.alloc (lC L a0 (some (E b a)) f g c k)).alloc (tO t)) G):=by show Below _ _ _;rw [<-A];exact F
 obtain⟨-,-,-,-,B⟩:=ZG p;have s:=Z B;obtain⟨ea2,ec2,U,-⟩:=id y;injection U with hen1 hen2 hen3;subst hen1;subst hen2;subst hen3;have M:=Z y;clear F B y;generalize zf L t=es at *
 have q:Hid (∀w':World,Below (w.heap.size+1+1) ((w.alloc (lC L a0 (some (E b a)) f g c k)).alloc (tO t)) w'->(w'.cell? (E w.heap.size 0)=some (.slice a0 L.l.length g)/\w'.cell? (E w.heap.size 1)=some (.slice (some (E b a)) L.b.length c)/\w'.cell? (E w.heap.size 2)=some (.slice f L.o.length k))/\(w'.cell? (E (w.heap.size+1) 0)=Y t.u0/\w'.cell? (E (w.heap.size+1) 1)=Y t.u1/\w'.cell? (E (w.heap.size+1) 2)=Y t.u2/\w'.cell? (E (w.heap.size+1) 3)=Y t.w0/\w'.cell? (E (w.heap.size+1) 4)=Y t.w1/\w'.cell? (E (w.heap.size+1) 5)=Y t.w2/\w'.cell? (E (w.heap.size+1) 6)=Y t.r)):=by intro w' h;obtain⟨h1,h2,-⟩:=ZG h;exact⟨h1,h2⟩
 have Q:w.heap.size+1+1<=G.heap.size:=by have:=p.size;simp_all
 go_wp2;refine rh 99 q (p.trans (zV _ _)) fun m=>?_;refine uk2 0 ?_;refine uk2 3 ?_;refine uk2 5 ?_;refine uo 2 fun K d=>?_;go_simp;refine (R _ (s.trans (zV _ _))).mono ?_;rintro e x3 ⟨rfl,n⟩;have u:=p.trans ((zV _ _).trans (n.mono (by simpa using Q)));have C:=Z u;have P:=Z (s.trans ((zV _ _).trans (n.mono (by simpa using s.size))));have m:=q _ u;have N:=Z (M.gE ((zV _ _).trans n));clear n u;refine nxt d.out (.inr m) ?_;clear d K;refine uo 7 fun K d=>?_;go_simp;refine (I _ _ _ N).mono ?_;rintro e x4 ⟨rfl,x⟩;have T:w.heap.size+1+1<=x3.heap.size:=by have:=C.size;rw [A] at this;exact this
 have D:=C.trans (x.mono T);have S:=Z (P.tm x);have m:=q _ D;clear x D;refine nxt d.out (.inr m) ?_;clear d K;refine uk2 8 ?_;refine uk 10 ?_;refine rd ?_;clear m;go_wp2;exact bodyPost_ret (v:=.tuple #[J ub,J rb,J 0]) (by simp [results,results23,go_sem]) rfl ⟨rfl,S⟩
end
section
variable {y:World}
def zbj {w:World} {L:Lp} {a0 a c:Option Addr} {d f g:Nat} {t:Tg} (h:Below (w.heap.size+1+1+1) (((w.alloc (lC L a0 a c d f g)).alloc (tO t)).alloc (.cells #[J 0,.slice none 0 0] 110)) y):((y.cell? (E w.heap.size 0)=some (.slice a0 L.l.length d)/\y.cell? (E w.heap.size 1)=some (.slice a L.b.length f)/\y.cell? (E w.heap.size 2)=some (.slice c L.o.length g))/\(y.cell? (E (w.heap.size+1) 0)=Y t.u0/\y.cell? (E (w.heap.size+1) 1)=Y t.u1/\y.cell? (E (w.heap.size+1) 2)=Y t.u2/\y.cell? (E (w.heap.size+1) 3)=Y t.w0/\y.cell? (E (w.heap.size+1) 4)=Y t.w1/\y.cell? (E (w.heap.size+1) 5)=Y t.w2/\y.cell? (E (w.heap.size+1) 6)=Y t.r))/\y.heap[(w.heap.size+1+1)]?=some (.cells #[J 0,.slice none 0 0] 110 (0,0)):=by
 have j:((w.alloc (lC L a0 a c d f g)).alloc (tO t)).heap.size=w.heap.size+1+1:=by simp
 have i:(w.alloc (lC L a0 a c d f g)).heap.size=w.heap.size+1:=by simp
 have b2:y.heap[(w.heap.size+1+1)]?=some (.cells #[J 0,.slice none 0 0] 110 (0,0)):=by rw [h.block _ (by omega),<-j];exact zm _ _ _
 have b1:y.heap[w.heap.size+1]?=some (tO t):=by rw [h.block _ (by omega),Qr _ _ _ (by simp),<-i];exact zm _ _ _
 have b0:y.heap[w.heap.size]?=some (lC L a0 a c d f g):=by rw [h.block _ (by omega),Qr _ _ _ (by simp;omega),Qr _ _ _ (by simp)];exact zm _ _ _
 refine⟨⟨⟨?_,?_,?_⟩,⟨?_,?_,?_,?_,?_,?_,?_⟩⟩,b2⟩;all_goals first | (rw [Qa b0];rfl) | (rw [Qa b1];rfl)
def zcd {g n c:Nat} {T:List Int} {b:Nat} (h:zM y (.slice (pA g) n c) T) (hb:b≠g) (i:Nat) (v:Value):zM (y.setCell (E b i) v) (.slice (pA g) n c) T/\True:=by obtain⟨a,cap,e,h1,j,k,l⟩:=h;refine⟨⟨a,cap,e,h1,j,k,fun p=>?_⟩,trivial⟩;obtain⟨b',d,f,m,o⟩:=l p;injection e with e3;rw [f] at e3;injection e3 with e3;injection e3 with e3 e4;refine⟨b',d,f,by simpa using m,fun i hi=>?_⟩;rw [xX (Qj _ _ _ _ (show b'≠b by omega))];exact o i hi
def ztr (L:Lp) (t:Tg) (gU:Int) (w:World) (e:Ending) (w':World):Prop:=Bw w w'/\∃P ta tl tc c,e=.returned (.tuple #[.agg #[J P,.slice ta tl tc],J c]) /\
    ((zQ L && zS t)=false->c=2/\P=0/\tl=0)/\((zQ L && zS t)=true->inR gU 1 200=false->c=3/\P=0/\tl=0) /\
    ((zQ L && zS t)=true->inR gU 1 200=true->c=0/\∃T,tl=T.length/\zM w' (.slice ta tl tc) T/\zZ L t P T=true/\gU<=P/\P<=max gU (xU L t)/\Yz L t gU P T)
def yca (hE:Zj) (hB:zbu) (t:Tg) (L:Lp) (a0 k:Option Addr) (bb bo:Nat) (n p r:Nat) (c:Int) (w:World) (hL:zI w ((lv L a0 (some (E bb bo)) k n p r)) L) (hm:zQ L=true) (D:zS t=true) (bC:1<=c) (bD:c<=200) :
  Calls prog 94 #[(lv L a0 (some (E bb bo)) k n p r),(tV t),J c] w fun e w'=>ztr L t c w e w':=by
 have aI:(zQ L && zS t)=true:=by rw [hm,D];rfl
 have aK:=Z (QJ w (lC L a0 (some (E bb bo)) k n p r) (tO t) (.cells #[J 0,.slice none 0 0] 110));have bK:Hid ((((w.alloc (lC L a0 (some (E bb bo)) k n p r)).alloc (tO t)).alloc (.cells #[J 0,.slice none 0 0] 110)).heap.size=(w.heap.size+1+1+1)):=by show _=_;simp
 have aE:=Z (hB _ t L (((w.alloc (lC L a0 (some (E bb bo)) k n p r)).alloc (tO t)).alloc (.cells #[J 0,.slice none 0 0] 110)) (hL.gE aK) aI);have HM:=Z (fun W (h:zI W ((lv L a0 (some (E bb bo)) k n p r)) L)=>hE ((lv L a0 (some (E bb bo)) k n p r)) t L W h aI);have bN:=Z (fun W=>za3 c 1 200 W);rw [yh ⟨bC,bD⟩] at bN;have HL:=Z hL;obtain⟨-,cO,cC,-⟩:=zy hm;obtain⟨v0,v1,v2,hv,-,⟨a1',c1',cJ,bS,cD,bQ⟩,-⟩:=hL;injection hv with hv;obtain⟨e0,e1,e2⟩:(.slice a0 L.l.length n:Value)=v0/\(.slice (some (E bb bo)) L.b.length p:Value)=v1/\(.slice k L.o.length r:Value)=v2:=by simpa using hv
 subst e1;injection cJ with f1 f2 f3;subst f1;subst f3;obtain⟨bb',bo',bg,hbb,gQ⟩:=bQ (by omega);injection bg with bg;injection bg with g1 g2;subst g1;subst g2;unfold maxLen at cD;have al:=Z (fun W (N:Bw w W)=>zcu t L (.slice a0 L.l.length n) (.slice k L.o.length r) bb bo p c W hm D bC bD (Qu hbb N.size) bS (by omega) (fun i hi j hj=>(ze N _ _ hbb).trans (gQ i hi j hj)));have bG:=Z (fun W (P:Int) ea ec (N:Bw w W) (cw:ZD W (.slice ea (zf L t).length ec) (zf L t)) (h1:1<=P) (B:P<=200)=>zso t L (.slice a0 L.l.length n) (.slice k L.o.length r) bb bo p P ea ec W hm D h1 B (Qu hbb N.size) bS (by omega) (fun i hi j hj=>(ze N _ _ hbb).trans (gQ i hi j hj)) cw);have cx:=zd9 hm D;have cI:=zzm L t;have ae:Hid (zZ L t (max c (xU L t)) (Xl L t)=true):=ze3 hm D (by omega) (by omega);have aO:Hid ((Xl L t).length=L.b.length):=by show _=_;unfold Xl;simp
 have aa:Hid (∀(W:World) (P:Int) ta tl tc,Bw w W->(∃T,tl=T.length/\zM W (.slice ta tl tc) T/\zZ L t P T=true/\Yz L t c P T)->c<=P->P<=max c (xU L t)->ztr L t c w (.returned (.tuple #[.agg #[J P,.slice ta tl tc],J 0])) W):=fun W P ta tl tc h1 ⟨T,B,h3,h4,h7⟩ h5 h6=>⟨h1,P,ta,tl,tc,0,rfl,fun h=>absurd (aI.symm.trans h) (by simp),fun _ h=>absurd ((yh ⟨bC,bD⟩).symm.trans h) (by simp),fun _ _=>⟨rfl,T,B,h3,h4,h5,h6,h7⟩⟩;clear gQ bQ hv aI hm D f2 e0 e2;obtain⟨aw,aZ⟩:=nm (xU L t);obtain⟨es,bR⟩:=nm (zf L t);rw [aZ] at cx ae aa;have bY:=Z aZ;rw [bR] at HM bG;obtain⟨ub,ah⟩:=nm (ZL L t);obtain⟨rb,ag⟩:=nm (xS L t);obtain⟨z,bz⟩:=nm (yd5 L t c);have bJ:=Z bz;have bI:Hid (z=max (max c ub) rb):=by show _=_;rw [<-bz,<-ah,<-ag];rfl
 rw [ah] at aE cI;rw [ag] at aE;clear aZ bR ah ag bz;obtain⟨d,bj⟩:=nm (max c aw);rw [bj] at ae aa;have af:c<=d/\d<=200:=by omega
 obtain⟨af,cE⟩:=af;have aR:Hid (max c (xU L t)=d):=by show _=_;rw [bY];exact bj
 have aP:Hid (∀P T,(∀q,z<=q->q<P->Xr L t q none)->z<=P->P<d->Xr L t P (some T)->Yz L t c P T):=fun P T h1 B h3 h4=>by unfold Yz;rw [bJ,aR];grind
 have aQ:Hid (∀pc,(∀q,z<=q->q<pc->Xr L t q none)->d<=pc->Yz L t c d (Xl L t)):=fun pc h1 B=>by unfold Yz;rw [bJ,aR];grind
 go_enter func94,ntmps94;go_wp2_with fail;refine aE.mono ?_;rintro e x1 ⟨rfl,bf⟩;have aX:Hid (Below (w.heap.size+1+1+1) (((w.alloc (lC L a0 (some (E bb bo)) k n p r)).alloc (tO t)).alloc (.cells #[J 0,.slice none 0 0] 110)) x1):=by show Below _ _ _;rw [<-bK];exact bf
 have aV:Hid (Bw w x1):=aK.tm bf;have bV:(w.heap.size+1+1+1)<=x1.heap.size:=by have:=aX.size;rw [bK] at this;exact this
 obtain⟨⟨⟨l0,l1,l2⟩,⟨O,Q,R,S,U,V,X⟩⟩,-⟩:=zbj aX;clear bf aE bj;go_wp2_with (go_at_call 143;refine (bN _).mono ?_;rintro e w' ⟨rfl,bF⟩;have bF:=bF.symm;subst bF);refine (HM _ (HL.gE aV)).mono ?_;rintro e x2 ⟨ea,en,ec,rfl,bh,aH⟩;obtain⟨ea2,ec2,cA,-⟩:=id bh;injection cA with hen1 hen2 hen3;subst hen1;subst hen2;subst hen3;have bO:Hid (Below (w.heap.size+1+1+1) (((w.alloc (lC L a0 (some (E bb bo)) k n p r)).alloc (tO t)).alloc (.cells #[J 0,.slice none 0 0] 110)) x2):=aX.trans (aH.mono bV);have aW:Hid (Bw w x2):=aV.tm aH;have bW:(w.heap.size+1+1+1)<=x2.heap.size:=QH bV aH.size;have aj:=Z bh;clear l0 l1 l2 O Q R S U V X aH bh HM;obtain⟨⟨⟨l0,l1,l2⟩,⟨O,Q,R,S,U,V,X⟩⟩,-⟩:=zbj bO;go_wp2_with fail;refine (al _ aW).mono ?_;rintro e f ⟨I,m,a,rfl,cB,ab⟩;rw [aR];have ce:Hid (Below (w.heap.size+1+1+1) (((w.alloc (lC L a0 (some (E bb bo)) k n p r)).alloc (tO t)).alloc (.cells #[J 0,.slice none 0 0] 110)) f):=bO.trans (I.mono bW);have bL:Hid (Bw w f):=aW.tm I;have cL:(w.heap.size+1+1+1)<=f.heap.size:=QH bW I.size;have aL:=Z (aj.gE I);have aM:=Z ab;have cg:Hid (Bw f (f.alloc (.cells #[J d,.slice (pA m) L.b.length a] 110))):=Qd _ _;have bZ:Hid ((f.alloc (.cells #[J d,.slice (pA m) L.b.length a] 110)).heap[f.heap.size]?=some (.cells #[J d,.slice (pA m) L.b.length a] 110 (0,0))):=zm _ _ _;have bP:Hid ((f.alloc (.cells #[J d,.slice (pA m) L.b.length a] 110)).heap.size=f.heap.size+1):=by show _=_;simp
 clear l0 l1 l2 O Q R S U V X I ab aj al;go_wp2
 all_goals
  go_loopw [14] (fun pv wr=>∃pc:Int,pv=J pc/\c<=pc/\(z<=pc/\∀q,z<=q->q<pc->Xr L t q none)/\Below (f.heap.size+1) (f.alloc (.cells #[J d,.slice (pA m) L.b.length a] 110)) wr) (fun pv _=>(d - intOf pv).toNat)
  case atStart=>exact⟨_,rfl,by omega,⟨by have:=bI.out;omega,fun q h1 B=>absurd B (by have:=bI.out;omega)⟩,QA _ _⟩
  case round =>
   obtain⟨pc,rfl,hpc,bT,M⟩:=hrel
   have H:=Z bT
   clear bT
   have HB:=Z M
   have aF:Hid (Bw f wr):=cg.trans (M.mono (by omega))
   have cu:Hid (Below (w.heap.size+1+1+1) (((w.alloc (lC L a0 (some (E bb bo)) k n p r)).alloc (tO t)).alloc (.cells #[J 0,.slice none 0 0] 110)) wr):=ce.trans (aF.mono cL)
   have aG:Hid (Bw w wr):=bL.tm aF
   have cH:f.heap.size+1<=wr.heap.size:=by have:=M.size;rw [bP] at this;exact this
   have bE:wr.heap[f.heap.size]?=some (.cells #[J d,.slice (pA m) L.b.length a] 110 (0,0)):=(M.block _ (by omega)).trans bZ
   have m0:wr.cell? (E f.heap.size 0)=Y d:=cb bE
   have m1:wr.cell? (E f.heap.size 1)=some (.slice (pA m) L.b.length a):=cb bE
   obtain⟨⟨⟨l0,l1,l2⟩,⟨O,Q,R,S,U,V,X⟩⟩,hz⟩:=zbj cu
   have C:=Z hz
   have cN:=cB
   clear M bE hz
   by_cases hlt:pc<d
   ·have aJ:=Z (bG wr pc ea ec aG (aL.gE aF) (by omega) (by omega))
    go_wp2_with fail
    refine aJ.mono ?_
    rintro e s ⟨K,u,ta5,tl5,g,bk5,rfl,aD,aB⟩
    have aS:=Z aB
    clear aB
    have bH:Hid (Below (f.heap.size+1) (f.alloc (.cells #[J d,.slice (pA m) L.b.length a] 110)) s):=HB.trans (K.mono cH)
    have bM:Hid (Bw w s):=aG.tm K
    have A:s.heap[(w.heap.size+1+1)]?=some (.cells #[J 0,.slice none 0 0] 110 (0,0)):=(K.block _ (by omega)).trans C
    have cS:wr.heap.size<=s.heap.size:=K.size
    have aY:=Z aD
    clear aD K l0 l1 l2 O Q R S U V X m0 m1
    cases bk5 with
    | true =>
      obtain⟨rfl,y,x,rfl,cM,rfl,az,ac,aC⟩:=aY rfl
      have aA:=aP u x H.2 H.1 hlt aC
      have n0:s.cell? (E ((w.heap.size+1+1)) 0)=Y 0:=cb A
      have n1:s.cell? (E ((w.heap.size+1+1)) 1)=some (.slice none 0 0):=cb A
      have k0:s.frozen? (E ((w.heap.size+1+1)) 0)=false:=by simp [World.frozen?,A]
      have k1:s.frozen? (E ((w.heap.size+1+1)) 1)=false:=by simp [World.frozen?,A]
      have bU:(w.heap.size+1+1)<s.heap.size:=(lo A)
      have cF:¬s.heap.size=(w.heap.size+1+1):=by omega
      have cG:¬(w.heap.size+1+1)=s.heap.size:=by omega
      obtain⟨F,G⟩:=Yr (a':=J u) (b':=.slice (pA y) x.length g) A
      have HF:Hid (∀o,ztr L t c w (.returned (.tuple #[.agg #[J u,.slice (pA y) x.length g],J 0])) (((s.setCell (E ((w.heap.size+1+1)) 0) (J u)).setCell (E ((w.heap.size+1+1)) 1) (.slice (pA y) x.length g)).alloc o)):=fun o=>by
       refine aa _ u _ _ _ (((bM.setCell (by show w.heap.size<=(w.heap.size+1+1);omega) _).setCell (by show w.heap.size<=(w.heap.size+1+1);omega) _).alloc (by have:=bM.size;simp;omega) _) ⟨x,rfl,?_,ac,aA⟩ hpc (by omega)
       exact ((zcd az (show (w.heap.size+1+1)≠y by omega) 0 _).1 |> fun h=>(zcd h (show (w.heap.size+1+1)≠y by omega) 1 _).1).gE (Qd _ _)
      clear A az ac aC aA
      have aU:Hid (∀o,(((s.setCell (E ((w.heap.size+1+1)) 0) (J u)).setCell (E ((w.heap.size+1+1)) 1) (.slice (pA y) x.length g)).alloc o).cell? (E ((w.heap.size+1+1)) 0)=Y u/\(((s.setCell (E ((w.heap.size+1+1)) 0) (J u)).setCell (E ((w.heap.size+1+1)) 1) (.slice (pA y) x.length g)).alloc o).cell? (E ((w.heap.size+1+1)) 1)=some (.slice (pA y) x.length g)):=fun o=>⟨(ze (Qd _ _) _ _ (by simpa using bU)).trans F,(ze (Qd _ _) _ _ (by simpa using bU)).trans G⟩
      clear F G
      go_wp2
      obtain⟨F,G⟩:=aU (.cells #[J u,.slice (pA y) x.length g] 110)
      exact bodyPost_ret (v:=.tuple #[.agg #[J u,.slice (pA y) x.length g],J 0]) (by simp [results,results94,go_sem,F,G]) rfl (HF _)
    | false =>
      have aT:Hid (z<=pc+1/\∀q,z<=q->q<pc+1->Xr L t q none):=⟨by have:=H.1;omega,fun q g1 g2=>by
       by_cases e:q=pc
       ·rw [e];exact aS rfl
       ·exact H.2 q g1 (by omega)⟩
      go_wp2
      go_roundw
      case rel=>exact⟨pc+1,by go_num,by omega,aT,bH.alloc (by omega) _⟩
      case measure=>simp [intOf];omega
   ·have aN:=Z (aM.gE aF.out)
    have n0:wr.cell? (E ((w.heap.size+1+1)) 0)=Y 0:=cb C.out
    have n1:wr.cell? (E ((w.heap.size+1+1)) 1)=some (.slice none 0 0):=cb C.out
    have k0:wr.frozen? (E ((w.heap.size+1+1)) 0)=false:=by simp [World.frozen?,C.out]
    have k1:wr.frozen? (E ((w.heap.size+1+1)) 1)=false:=by simp [World.frozen?,C.out]
    obtain⟨F,G⟩:=Yr (a':=J d) (b':=.slice (pA m) L.b.length a) C
    have HF:Hid (ztr L t c w (.returned (.tuple #[.agg #[J d,.slice (pA m) L.b.length a],J 0])) ((wr.setCell (E ((w.heap.size+1+1)) 0) (J d)).setCell (E ((w.heap.size+1+1)) 1) (.slice (pA m) L.b.length a))):=by
     refine aa _ d _ _ _ ((aG.setCell (by show w.heap.size<=(w.heap.size+1+1);omega) _).setCell (by show w.heap.size<=(w.heap.size+1+1);omega) _) ⟨Xl L t,aO.symm,?_,ae,aQ pc H.2 (by omega)⟩ af (QR _)
     exact (zcd (zcd aN (show (w.heap.size+1+1)≠m by omega) 0 _).1 (show (w.heap.size+1+1)≠m by omega) 1 _).1
    go_wp2
    exact bodyPost_ret (v:=.tuple #[.agg #[J d,.slice (pA m) L.b.length a],J 0]) (by simp [results,results94,go_sem,F,G]) rfl HF
end
def zt1 (hE:Zj) (t:Tg) (L:Lp) (a0 a:Option Addr) (bb bo:Nat) (c d f:Nat) (P:Int) (T:List Int) (tb g:Nat) (tc:Nat) (w:World) (hL:zI w ((lv L a0 (some (E bb bo)) a c d f)) L) (hT:zM w (.slice (some (E tb g)) T.length tc) T) (h:T.length=L.b.length) (hm:zQ L=true) (ht:zS t=true) :
  Calls Tryz.prog 145 #[(lv L a0 (some (E bb bo)) a c d f),(tV t),.agg #[J P,.slice (some (E tb g)) T.length tc]] w (Rt w (.bool (zZ L t P T))):=by
 have HM:=Z (fun W (h:zI W ((lv L a0 (some (E bb bo)) a c d f)) L)=>hE ((lv L a0 (some (E bb bo)) a c d f)) t L W h (by rw [hm,ht];rfl));have ao:=Z (QJ w (lC L a0 (some (E bb bo)) a c d f) (tO t) (.cells #[J P,.slice (some (E tb g)) T.length tc] 110));have D:Hid ((((w.alloc (lC L a0 (some (E bb bo)) a c d f)).alloc (tO t)).alloc (.cells #[J P,.slice (some (E tb g)) T.length tc] 110)).heap.size=w.heap.size+1+1+1):=by show _=_;simp
 obtain⟨-,bI,aQ,-⟩:=zy hm;have HL:=Z hL;have HT:=Z hT;obtain⟨v0,v1,v2,G,-,⟨a1',c1',bH,bz,bD,aT⟩,-⟩:=hL;injection G with G;obtain⟨e0,e1,e2⟩:(.slice a0 L.l.length c:Value)=v0/\(.slice (some (E bb bo)) L.b.length d:Value)=v1/\(.slice a L.o.length f:Value)=v2:=by simpa using G
 subst e1;injection bH with f1 f2 f3;subst f1;subst f3;obtain⟨bb',bo',q,hbb,gQ⟩:=aT (by omega);injection q with q;injection q with g1 g2;subst g1;subst g2;obtain⟨ta',tc',bG,bC,bE,bF,aU⟩:=hT;injection bG with f4 f5 f6;subst f4;subst f6;obtain⟨tb',tz',ah,A,ab⟩:=aU (by omega);injection ah with ah;injection ah with g3 g4;subst g3;subst g4;unfold maxLen at bD bE;have C:=Z (fun W (h:zM W (.slice (some (E tb g)) T.length tc) T)=>zh4 P T (some (E tb g)) tc W h);have aY:Hid (∀e∈zf L t,zio L.b.length e):=fun e he=>by obtain⟨fr,to,bk,wt,h0,h1,v,h3,h4,h5⟩:=ZW hm e he;exact⟨fr,to,bk,wt,h0,h1,v,h5,h4⟩
 have s:Hid (1<=P->P<=200->(zF (fun i=>inR (nth T i) 0 1000) T.length && zF (fun i=>UM P T (zJ (zf L t) i)) (zf L t).length && zF (Un L t P T) T.length)=zZ L t P T):=fun h1 v=>zzk ht h h1 v hm;have aX:Hid (¬(1<=P/\P<=200)->zZ L t P T=false):=fun h=>ybx (by omega);have S:=Z (fun W ea ec (p:Bw w W) (hE:ZD W (.slice ea (zf L t).length ec) (zf L t)) (m:1<=P) (n:P<=200) (X:∀i,i<L.b.length->0<=nth T i/\nth T i<=1000)=>ziq L.b.length P T tb g tc ea ec (zf L t) W hE aY aQ m n h (by omega) (by omega) (Qu A p.size) (fun i hi=>(ze p _ _ A).trans (ab i (by omega))) X);have aP:=Z (fun W (p:Bw w W) (m:1<=P) (n:P<=200) (X:∀i,i<L.b.length->0<=nth T i/\nth T i<=1000)=>ziz t L (.slice a0 L.l.length c) (.slice a L.o.length f) bb bo d P T tb g tc W aQ bz (by omega) (Qu hbb p.size) (fun i hi j hj=>(ze p _ _ hbb).trans (gQ i hi j hj)) (by omega) (by omega) (Qu A p.size) (fun i hi=>(ze p _ _ A).trans (ab i (by omega))) X m n);have aN:Hid (zF (fun i=>inR (nth T i) 0 1000) T.length=true->∀i,i<L.b.length->0<=nth T i/\nth T i<=1000):=fun ha i hi=>zH.1 (zq ha i (by omega));clear hm ht gQ ab bF aT aU G f2 f5 e0 e2;generalize zZ L t P T=lb at *
 obtain⟨es,aV⟩:=nm (zf L t);rw [aV] at HM s S;obtain⟨bn,aS⟩:∃b,zF (fun i=>inR (nth T i) 0 1000) T.length=b:=⟨_,rfl⟩;obtain⟨bp,aL⟩:∃b,inR P 1 200=b:=⟨_,rfl⟩;obtain⟨be,q⟩:∃b,zF (fun i=>UM P T (zJ es i)) es.length=b:=⟨_,rfl⟩;obtain⟨bu,z⟩:∃b,zF (Un L t P T) T.length=b:=⟨_,rfl⟩;rw [aS] at s C aN;rw [aL] at C;rw [q] at s S;rw [z] at s;rw [h] at z;rw [z] at aP;have R:=Z aL
 have B:Hid (∀x,Below (w.heap.size+1+1+1) (((w.alloc (lC L a0 (some (E bb bo)) a c d f)).alloc (tO t)).alloc (.cells #[J P,.slice (some (E tb g)) T.length tc] 110)) x->(x.cell? (E w.heap.size 0)=some (.slice a0 L.l.length c)/\x.cell? (E w.heap.size 1)=some (.slice (some (E bb bo)) L.b.length d)/\x.cell? (E w.heap.size 2)=some (.slice a L.o.length f)) /\
  (x.cell? (E (w.heap.size+1) 0)=Y t.u0/\x.cell? (E (w.heap.size+1) 1)=Y t.u1/\x.cell? (E (w.heap.size+1) 2)=Y t.u2/\x.cell? (E (w.heap.size+1) 3)=Y t.w0/\x.cell? (E (w.heap.size+1) 4)=Y t.w1/\x.cell? (E (w.heap.size+1) 5)=Y t.w2/\x.cell? (E (w.heap.size+1) 6)=Y t.r) /\
  (x.cell? (E (w.heap.size+1+1) 0)=Y P/\x.cell? (E (w.heap.size+1+1) 1)=some (.slice (some (E tb g)) T.length tc))):=fun x hx=>by
  obtain⟨k1,k2,k3,-,-⟩:=Z3 hx
  exact⟨k1,k2,k3⟩
 rw [h] at HT C ao D B bC ⊢;clear aS aL q z aV;clear h;go_enter Tryz.func145,Tryz.ntmps145;go_wp2_with fail;refine (HM _ (HL.gE ao)).mono ?_;rintro e x1 ⟨ea,en,ec,rfl,aM,hb⟩;have U:Hid (Below (w.heap.size+1+1+1) (((w.alloc (lC L a0 (some (E bb bo)) a c d f)).alloc (tO t)).alloc (.cells #[J P,.slice (some (E tb g)) L.b.length tc] 110)) x1):=by show Below _ _ _;rw [<-D];exact hb
 have aG:Hid (Bw w x1):=ao.tm hb;obtain⟨ea2,ec2,bj,-⟩:=id aM;injection bj with hen1 hen2 hen3;subst hen1;subst hen2;subst hen3;have aW:=Z aM;clear hb aM;obtain⟨⟨l0,l1,l2⟩,⟨H,I,K,M,N,O,Q⟩,⟨k0,k1⟩⟩:=B _ U;go_wp2_with fail;refine (C _ (HT.gE aG)).mono ?_;rintro e x2 ⟨rfl,y⟩;have V:Hid (Below (w.heap.size+1+1+1) (((w.alloc (lC L a0 (some (E bb bo)) a c d f)).alloc (tO t)).alloc (.cells #[J P,.slice (some (E tb g)) L.b.length tc] 110)) x2):=U.trans (y.mono (by have:=U.size;rw [D] at this;exact this));have u:Hid (Bw w x2):=aG.tm y;have aF:=Z (aW.gE y);clear y l0 l1 l2 H I K M N O Q k0 k1;obtain⟨⟨l0,l1,l2⟩,⟨H,I,K,M,N,O,Q⟩,⟨k0,k1⟩⟩:=B _ V;have bf:Hid (bp=true->1<=P/\P<=200):=fun h=>zH.1 (R.trans h);have aZ:Hid (bp=false->lb=false):=fun h=>aX fun v=>by rw [yh v,h] at R;exact absurd R.out (by simp)
 cases bp with
 | false =>have k:=Z (aZ rfl);rw [Ew];go_wp2;go_ret;exact⟨zi k.symm,u⟩
 | true =>
  obtain⟨m,n⟩:=bf rfl;have ae:=Z (s m n);cases bn with
  | false =>have k:Hid (lb=false):=(by show _=_;rw [<-ae];rfl);rw [WI];go_wp2_with fail;go_ret;exact⟨zi k.symm,u⟩
  | true =>
   have aO:=Z (aN rfl);rw [Wb];go_wp2_with fail;refine (S _ _ _ u aF m n aO).mono ?_;rintro e x3 ⟨rfl,aK⟩;have bh:Hid (Below (w.heap.size+1+1+1) (((w.alloc (lC L a0 (some (E bb bo)) a c d f)).alloc (tO t)).alloc (.cells #[J P,.slice (some (E tb g)) L.b.length tc] 110)) x3):=V.trans (aK.mono (by have:=V.size;rw [D] at this;exact this));have F:Hid (Bw w x3):=u.trans (aK.mono u.size);clear aK l0 l1 l2 H I K M N O Q k0 k1;obtain⟨⟨l0,l1,l2⟩,⟨H,I,K,M,N,O,Q⟩,⟨k0,k1⟩⟩:=B _ bh;cases be with
   | false =>have k:Hid (lb=false):=(by show _=_;rw [<-ae];rfl);go_wp2_with fail;go_ret;exact⟨zi k.symm,F⟩
   | true =>have k:Hid (lb=bu):=(by show _=_;rw [<-ae];rfl);go_wp2_with fail;refine (aP _ F m n aO).mono ?_;rintro e x4 ⟨rfl,aR⟩;have bg:Hid (Bw w x4):=F.trans (aR.mono F.size);clear aR;go_wp2_with fail;go_ret;exact⟨zi k.symm,bg⟩
end Go.Proofs.YtjlfcbccpcigeacGreatDoor
