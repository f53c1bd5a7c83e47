import Derived.Test.YtjoapiafpahihabGreatCheckLay
set_option maxHeartbeats 20000000
namespace Go.Proofs.YtjoapiafpahihabGreat
open Go.RowKit Go.Joins
set_option linter.unusedVariables false
set_option linter.unusedSimpArgs false
set_option maxRecDepth 8192
variable {w w':World} {base n y o b p g M cl s q:Nat} {e:TypeId} {v:Value} {L:Lp} {t:Tg} {K:Kn} {O l:List Int} {m m':Option Nat} {cs:Array Value} {f:Nat->Value} {c:Lc} {es:Array MapEntry}
theorem zly (l:List Rd):∀i j,i<l.length->j<5->(YU l)[i*5+j]?=(Zy (xc l i))[j]?:=by
 induction l with
 | nil=>intro i j hi;exact absurd hi (Nat.not_lt_zero _)
 | cons x l ih =>
   intro i j hi hj
   show ((Zy x).toList++YU l)[i*5+j]?=_
   have h5:(Zy x).toList.length=5:=rfl
   cases i with
   | zero =>
     rw [List.getElem?_append_left (by omega),Nat.zero_mul,Nat.zero_add]
     simp [xc]
   | succ i =>
     rw [List.getElem?_append_right (by omega),h5,show (i+1)*5+j - 5=i*5+j by omega,ih i j (by simpa using hi) hj]
     rfl
theorem Ut.of_own {l:List Rd} (h:w.ownsRow base e 5 v l.length (YU l)):Ut w v l:=by
 obtain⟨hl,h⟩:=h
 rcases h with ⟨rfl,hn⟩ | ⟨g,cap,cur,rfl,hg,hb,hn,hm,hc,ht⟩
 ·exact⟨none,0,by rw [hn],by omega,Nat.zero_le _,fun hp=>by omega⟩
 ·refine⟨some ⟨g,0,none⟩,cap,rfl,hn,hm,fun _=>⟨g,0,rfl,(Array.getElem?_eq_some_iff.1 hb).1,fun i hi j hj=>?_⟩⟩
  rw [Nat.zero_add,cell_of_block hb,<-zly l i j hi hj,<-ht,List.getElem?_take,if_pos (by omega)]
  simp
theorem zdp {a:Option Addr} {c:Nat} {f:Nat->Int} (h:w.ownsRow base e 1 (.slice a n c) n (ZL (XO f n))) (hn:1<=n):∃g,a=some ⟨g,0,none⟩/\base<=g/\n<=c/\c<=maxLen/\zu w g e n (fun i=>iV (f i)):=by
 obtain⟨g,cap,hv,hg,h1,h2,h3⟩:=yx h (.inr (by omega))
 injection hv with e1 e2 e3
 subst e3
 refine⟨g,e1,hg,h1,h2,h3.congr fun i hi=>?_⟩
 unfold ZL XO
 rw [List.map_map,List.getD,List.getElem?_map,List.getElem?_range hi]
 rfl
theorem Zq.of {x3:World} {l0 l1 l2:Value} {ta ra pa da:Option Addr} {tc rc pq dc:Nat}
  (h:LyM x3 y l0 l1 l2 K.pc t.r (.slice ta L.b.length tc) (.slice ra L.b.length rc) (.slice pa L.b.length pq) (.slice da (yh L K O).length dc) L.b.length L.b.length L.b.length (yh L K O).length (XO (yD K O) L.b.length) (XO (zF t K O) L.b.length) (XO (zr K O) L.b.length) (yh L K O) w)
  (hn:1<=L.b.length) (hl:zE w (.agg #[l0,l1,l2]) L):∃tb rb pb,Zq ⟨y,tb,rb,pb,tc,rc,pq,dc,da,l0,l1,l2,.map none⟩ L t K O w:=by
 obtain⟨tb,rfl,-,t1,t2,t3⟩:=zdp h.ot hn
 obtain⟨rb,rfl,-,r1,r2,r3⟩:=zdp h.or hn
 obtain⟨pb,rfl,-,p1,p2,p3⟩:=zdp h.op hn
 exact⟨tb,rb,pb,h.blk,t3,r3,p3,⟨t1,t2⟩,⟨r1,r2⟩,⟨p1,p2⟩,Ut.of_own h.od,hl⟩
theorem zou {a:Addr} {z:Int} (hm:w.cell? ⟨y,o,none⟩=some (.map m)) (ha:w.cell? a=some (iV z)):(w.setCell ⟨y,o,none⟩ (.map m')).cell? a=some (iV z):=by
 by_cases e:a=⟨y,o,none⟩
 ·rw [e,hm] at ha;cases ha
 ·rw [World.cell?_setCell_other (h:=Ne.symm e)];exact ha
theorem zka (hm:w.cell? ⟨y,o,none⟩=some (.map m)) (h:zK w v l):zK (w.setCell ⟨y,o,none⟩ (.map m')) v l:=by
 obtain⟨a,cap,e,h1,h2,h3,h4⟩:=h
 refine⟨a,cap,e,h1,h2,h3,fun hp=>?_⟩
 obtain⟨b,off,e1,h5,h6⟩:=h4 hp
 exact⟨b,off,e1,by simpa using h5,fun i hi=>zou hm (h6 i hi)⟩
theorem zg7 (hm:w.cell? ⟨y,o,none⟩=some (.map m)) (hc:∀j,j<n->w.cell? ⟨b,p+j,none⟩=cs[j]?) (hi:∀j,j<n->∃z,cs[j]?=some (iV z)):∀j,j<n->(w.setCell ⟨y,o,none⟩ (.map m')).cell? ⟨b,p+j,none⟩=cs[j]?:=by
 intro j hj
 obtain⟨z,hz⟩:=hi j hj
 rw [hz]
 exact zou hm ((hc j hj).trans hz)
theorem zwc (s:St):∀j,j<9->∃z,(zP s)[j]?=some (iV z):=by
 intro j hj
 rcases (show j=0\/j=1\/j=2\/j=3\/j=4\/j=5\/j=6\/j=7\/j=8 by omega) with e | e | e | e | e | e | e | e | e <;> subst e <;> exact⟨_,rfl⟩
theorem zvw (s:Rd):∀j,j<5->∃z,(Zy s)[j]?=some (iV z):=by
 intro j hj
 rcases (show j=0\/j=1\/j=2\/j=3\/j=4 by omega) with e | e | e | e | e <;> subst e <;> exact⟨_,rfl⟩
theorem zlb {e':TypeId} (h:zu w g e n f) (hy:w.heap[y]?=some (.cells cs e' (0,0))) (he:e≠e'):g≠y:=by
 intro hg
 subst hg
 obtain⟨c,hb,_,_⟩:=h
 rw [hy] at hb
 have h1:=Option.some.inj hb
 injection h1 with _ h2
 exact he h2.symm
theorem Zq.setS (h:Zq c L t K O w) (hs:c.sv=.map m) (m':Option Nat):Zq { c with sv:=.map m' } L t K O (w.setCell ⟨c.y,9,none⟩ (.map m')):=by
 have hm:w.cell? ⟨c.y,9,none⟩=some (.map m):=by obtain⟨-,-,-,-,-,-,-,-,-,d⟩:=h.cells;rw [d,hs]
 refine⟨?_,h.tm.gF (zlb h.tm h.blk (by decide)) _,h.rd.gF (zlb h.rd h.blk (by decide)) _,h.pl.gF (zlb h.pl h.blk (by decide)) _,h.ct,h.cr,h.cp,?_,?_⟩
 ·have hb:=h.blk
  simp [World.setCell,Array.getElem?_modify,hb]
 ·obtain⟨a,cap,e,h1,h2,h3⟩:=h.rs
  refine⟨a,cap,e,h1,h2,fun hp=>?_⟩
  obtain⟨b,off,e1,h4,h5⟩:=h3 hp
  exact⟨b,off,e1,by simpa using h4,fun i hi=>zg7 hm (h5 i hi) (zvw _)⟩
 ·obtain⟨v0,v1,v2,e,i0,⟨a,cap,e1,h1,h2,h3⟩,i2⟩:=h.lv
  refine⟨v0,v1,v2,e,zka hm i0,⟨a,cap,e1,h1,h2,fun hp=>?_⟩,zka hm i2⟩
  obtain⟨b,off,e2,h4,h5⟩:=h3 hp
  exact⟨b,off,e2,by simpa using h4,fun i hi=>zg7 hm (h5 i hi) (zwc _)⟩
theorem zjg (hM:w.heap[M]?=some (.map es cl)) (hg:w.grownBy w' (some M)) (h:w.cell? ⟨b,o,none⟩=some v):w'.cell? ⟨b,o,none⟩=some v:=by
 by_cases e:b=M
 ·subst e;simp [World.cell?,hM] at h
 ·have hlt:b<w.heap.size:=by
   rcases Nat.lt_or_ge b w.heap.size with h1 | h1
   ·exact h1
   ·simp [World.cell?,Array.getElem?_eq_none h1] at h
  rw [<-h]
  exact World.cell?_of_block (hg.block b hlt (fun e2=>e (by injection e2)))
theorem zjh (hM:w.heap[M]?=some (.map es cl)) (hg:w.grownBy w' (some M)) (h:zK w v l):zK w' v l:=by
 obtain⟨a,cap,e,h1,h2,h3,h4⟩:=h
 refine⟨a,cap,e,h1,h2,h3,fun hp=>?_⟩
 obtain⟨b,off,e1,h5,h6⟩:=h4 hp
 exact⟨b,off,e1,Nat.lt_of_lt_of_le h5 hg.size,fun i hi=>zjg hM hg (h6 i hi)⟩
theorem zfo (hM:w.heap[M]?=some (.map es cl)) (hg:w.grownBy w' (some M)) (hc:∀j,j<n->w.cell? ⟨b,p+j,none⟩=cs[j]?) (hi:∀j,j<n->∃z,cs[j]?=some (iV z)):∀j,j<n->w'.cell? ⟨b,p+j,none⟩=cs[j]?:=by
 intro j hj
 obtain⟨z,hz⟩:=hi j hj
 rw [hz]
 exact zjg hM hg ((hc j hj).trans hz)
theorem za9 (hM:w.heap[M]?=some (.map es cl)) (hg:w.grownBy w' (some M)) (h:zu w g e n f):zu w' g e n f:=by
 refine h.grown hg fun e2=>?_
 injection e2 with e2
 subst e2
 obtain⟨c,hb,_⟩:=h
 rw [hM] at hb
 cases hb
theorem Zq.grown (h:Zq c L t K O w) (hM:w.heap[M]?=some (.map es cl)) (hg:w.grownBy w' (some M)):Zq c L t K O w':=by
 have hy:c.y≠M:=by intro e;have:=h.blk;rw [e,hM] at this;cases this
 refine⟨(hg.block _ h.lt (fun e=>hy (by injection e))).trans h.blk,za9 hM hg h.tm,za9 hM hg h.rd,za9 hM hg h.pl,h.ct,h.cr,h.cp,?_,?_⟩
 ·obtain⟨a,cap,e,h1,h2,h3⟩:=h.rs
  refine⟨a,cap,e,h1,h2,fun hp=>?_⟩
  obtain⟨b,off,e1,h4,h5⟩:=h3 hp
  exact⟨b,off,e1,Nat.lt_of_lt_of_le h4 hg.size,fun i hi=>zfo hM hg (h5 i hi) (zvw _)⟩
 ·obtain⟨v0,v1,v2,e,i0,⟨a,cap,e1,h1,h2,h3⟩,i2⟩:=h.lv
  refine⟨v0,v1,v2,e,zjh hM hg i0,⟨a,cap,e1,h1,h2,fun hp=>?_⟩,zjh hM hg i2⟩
  obtain⟨b,off,e2,h4,h5⟩:=h3 hp
  exact⟨b,off,e2,Nat.lt_of_lt_of_le h4 hg.size,fun i hi=>zfo hM hg (h5 i hi) (zwc _)⟩
def yu (L:Lp) (t:Tg) (K:Kn) (O:List Int):List Int:=xl L t K O L.b.length
def zeb (L:Lp):List Int:=ybv L L.b.length
def X8 (L:Lp):List Int:=yb0 L L.b.length
def Zt (L:Lp) (s:Nat):Nat:=Yw (yg L) s
theorem ziv (hs:s<L.b.length) (hq:q<yg L s):nth (yu L t K O) (Zt L s+q)=(zr K O s - ((q:Int)+1)) % t.r/\nth (zeb L) (Zt L s+q)=s/\nth (X8 L) (Zt L s+q)=(q:Int)+1 :=
 ⟨YE (yg L) (YS t K O) L.b.length s q hs hq,YE (yg L) _ L.b.length s q hs hq,YE (yg L) _ L.b.length s q hs hq⟩
theorem zf5 (L:Lp) (t:Tg) (K:Kn) (O:List Int):(yu L t K O).length=Zt L L.b.length:=za0 _ _ _
theorem yal (hs:s<L.b.length) (hq:q<yg L s):Zt L s+q<Zt L L.b.length:=by
 have:=zmu (yg L) L.b.length s hs
 unfold Zt
 omega
theorem zaw (hm:zY L=true) (s:Nat):yg L s<=3:=by
 have:=UX hm (s:Int) L.b.length (Nat.le_refl _)
 unfold yg Vw
 omega
theorem zro (hm:zY L=true):∀s,Zt L s<=3*s:=by
 intro s
 induction s with
 | zero=>exact Nat.le_refl _
 | succ s ih =>
   have:=zaw hm s
   show Yw (yg L) s+yg L s<=_
   unfold Zt at ih
   omega
theorem zic (c:Lc) (L:Lp) (t:Tg) (K:Kn) (O:List Int) (m:Option Nat) (w:World) (h:Zq c L t K O w) (hsv:c.sv=.map m) (hl:xD L t K O=true) :
  Calls Tryz.prog 73 #[.pointer (some ⟨c.y,0,none⟩)] w fun e w'=>e=.returned (.bool (Zw L t K O))/\Below c.y w w'/\∃M,Zq { c with sv:=.map (some M) } L t K O w'/\(Zw L t K O=true->XE (yu L t K O) (zeb L) (X8 L) (Zt L L.b.length) M w'):=by
 have HD:Hid (Zw L t K O=zC (YV (yu L t K O)) (Zt L L.b.length)):=by show zC (YV (yu L t K O)) (yu L t K O).length=_;rw [zf5]
 obtain⟨hm,-⟩:=yP hl
 obtain⟨⟨hp1,hp2,hr1⟩,hrg⟩:=yz hl
 obtain⟨-,hn1,hn16,-⟩:=zw hm
 have hr2:t.r<=128:=by
  obtain⟨-,-,-,-,-,-,-,-,hr2,-⟩:=Z7 hl (s:=0) (by omega)
  exact hr2
 have HRR:=z9 (fun (i:Nat) (hi:i<(yh L K O).length)=>Xo hl (VI hi))
 have HFR:=z9 (fun (a:Int) (k:Nat) (hk:k<=(yh L K O).length)=>zlw hl a k hk)
 have HFE:=z9 (fun (s:Nat)=>zzv L K O (s:Int))
 have HPL:=z9 (fun (s:Nat) (hs:s<L.b.length)=>And.intro (Z7 hl hs).2.2.2.2.2.2.1 (Z7 hl hs).2.2.2.2.2.2.2.1)
 have HSM:=z9 (fun s=>zaw hm s)
 have HPS:=z9 (fun s=>zro hm s)
 have HFG:=z9 (fun i (hi:i<Zt L L.b.length)=>UY (t:=t) hr1 L K O (k:=L.b.length) hi)
 have HFA:=z9 (fun s q (hs:s<L.b.length) (hq:q<yg L s)=>ziv (t:=t) (K:=K) (O:=O) hs hq)
 have HH:=z9 h
 have HC:=z9 h.cells
 have hy:=h.lt
 obtain⟨v0,v1,v2,hlv,-,⟨b1,bc1,rfl,hbl,hbm,-⟩,-⟩:=h.lv
 unfold maxLen at hbm
 injection hlv with hlv
 obtain⟨hv0,hv1,hv2⟩:c.l0=v0/\c.l1=.slice b1 L.b.length bc1/\c.l2=v2:=by
  have:=congrArg Array.toList hlv
  simpa using this
 obtain⟨da,dc,hde,hd1,hd2,hd3⟩:=h.rs
 injection hde with e1 e2 e3
 unfold maxLen at hd2
 have HD3:=z9 hd3
 obtain⟨-,l1,-,-,-,-,-,-,l8,-⟩:=h.cells
 rw [hv1] at l1
 rw [e1,e3] at l8
 have HSV:=z9 hsv
 clear h hl hrg hd3 hlv hv0 hv1 hv2 hsv e1 e2 e3 hm
 obtain⟨rs,hrs⟩:∃rs,yh L K O=rs:=⟨_,rfl⟩
 rw [hrs] at l8 HRR HFR HFE HD3 hd1
 have HRS:=z9 hrs
 clear hrs
 have hmk:=run_make_row' (P:=Tryz.prog) 22 3 (iV 0) 8 Tryz.underlying22 Tryz.iintC rfl .i64 .i64 L.b.length (by omega) (by omega)
 go_enter Tryz.func73,Tryz.ntmps73
 have HZR:Hid (zu (w.alloc (.cells (madeCells #[iV 0] L.b.length) 3)) w.heap.size 3 L.b.length (fun j=>iV (YD rs (j:Int) 0))):=zu.zeros w (iV 0) L.b.length 3
 have hl8:(w.alloc (.cells (madeCells #[iV 0] L.b.length) 3)).cell? ⟨c.y,8,none⟩=some (.slice da rs.length dc):=(zf (below_alloc1 w _) c.y 8 hy).trans l8
 go_wp2_with fail
 clear hmk hl8 l1
 go_loopw [24] (fun i wr=>∃k:Nat,k<=rs.length/\i=iV k/\Below w.heap.size w wr/\zu wr w.heap.size 3 L.b.length (fun j=>iV (YD rs (j:Int) k))) (fun i _=>rs.length - (intOf i).toNat)
 case atStart=>exact⟨0,Nat.zero_le _,rfl,below_alloc1 _ _,HZR.out⟩
 case round =>
  clear HZR
  obtain⟨k,hk,rfl,gH,gI⟩:=hrel
  have HB:=z9 gH
  have HRW:=z9 gI
  have hFz:w.heap.size<wr.heap.size:=gI.lt
  by_cases hkl:k<rs.length
  ·have hki:(k:Int)<(rs.length:Int):=by omega
   obtain⟨db,dof,rfl,hdb,gR⟩:=HD3.out (by omega)
   obtain⟨c0,c1,c2,c3,c4⟩:=zzx (fun j hj=>(zf gH db (dof+k*5+j) hdb).trans (gR k hkl j hj))
   have hdz:db<wr.heap.size:=by omega
   obtain⟨r1,r2,r3,r4,-,-,-,-⟩:=HRR.out k hkl
   have HFS:Hid (∀a:Int,YD rs a (k+1)=if (xc rs k).ra=a then (if YD rs a k<(xc rs k).rb then (xc rs k).rb else YD rs a k) else YD rs a k):=fun a=>rfl
   obtain⟨x,hx⟩:∃x,xc rs k=x:=⟨_,rfl⟩
   rw [hx] at c0 c1 c2 c3 c4 r1 r2 r3 r4 HFS
   obtain⟨xa,xb,xt,xs,xn⟩:=x
   simp only at c0 c1 c2 c3 c4 r1 r2 r3 r4 HFS
   obtain⟨a,rfl⟩:∃a:Nat,xa=a:=⟨xa.toNat,by omega⟩
   have ha:a<L.b.length:=by omega
   have hai:(a:Int)<(L.b.length:Int):=by omega
   have cf:=gI.cell ha
   have hff:=gI.frozen a
   obtain⟨fv,hfv⟩:∃fv,YD rs (a:Int) k=fv:=⟨_,rfl⟩
   rw [hfv] at cf
   obtain⟨W,hW⟩:∃W,wr.alloc (.cells #[iV (a:Int),iV xb,iV xt,iV xs,iV xn] 185)=W:=⟨_,rfl⟩
   have hWb:Below wr.heap.size wr W:=by rw [<-hW];exact below_alloc1 _ _
   have hWr:W.heap[wr.heap.size]?=some (.cells #[iV (a:Int),iV xb,iV xt,iV xs,iV xn] 185 (0,0)):=by rw [<-hW];exact xT _ _ _
   have HS5:Hid (W.drew.cell? ⟨wr.heap.size,0,none⟩=some (iV (a:Int))/\W.drew.cell? ⟨wr.heap.size,1,none⟩=some (iV xb)/\W.drew.cell? ⟨w.heap.size,a,none⟩=some (iV fv)):=⟨by show W.cell? _=_;rw [cell_of_block hWr];rfl,by show W.cell? _=_;rw [cell_of_block hWr];rfl,(zf hWb w.heap.size a hFz).trans cf⟩
   have HRS2:Hid (∀nv,nv=(if fv<xb then xb else fv)->∀W':World,W'.heap[w.heap.size]?=(W.setCell ⟨w.heap.size,a,none⟩ (iV nv)).heap[w.heap.size]?->zu W' w.heap.size 3 L.b.length (fun j=>iV (YD rs (j:Int) (k+1)))):=fun nv hnv W' hW'=>by
    refine (((HRW.out.gE hWb hFz).set a (iV nv) ha).congr fun j hj=>?_).gG hW'
    rw [HFS.out]
    by_cases e:j=a
    ·subst e
     rw [if_pos rfl,if_pos rfl,hfv,hnv]
    ·rw [if_neg e,if_neg (by omega)]
   have HWW:=z9 hWb
   have hWz:wr.heap.size<W.heap.size:=(Array.getElem?_eq_some_iff.1 hWr).1
   have HWE:=z9 hW
   have hfW:W.frozen? ⟨w.heap.size,a,none⟩=false:=by rw [<-hW];exact (gI.alloc _).frozen a
   have cfW:W.cell? ⟨w.heap.size,a,none⟩=some (iV fv):=(zf hWb w.heap.size a hFz).trans cf
   clear hW hWb hWr gR hx hfv HFS gI cf hff gH
   have HBW:=z9 (fun v=>((HB.out.trans (HWW.out.mono HB.out.size)).setCell (p:=⟨w.heap.size,a,none⟩) (Nat.le_refl _) v).trans (below_draws _ _ 1))
   by_cases hmx:fv<xb
   ·have hnv:xb=(if fv<xb then xb else fv):=by rw [if_pos hmx]
    have HN:=z9 (HRS2.out xb hnv)
    have HBV:=z9 (HBW.out (iV xb))
    clear hnv HRS2 HBW
    go_wp2_with fail
    rw [HWE.out]
    clear c0 c1 c2 c3 c4
    refine wp_region_noPanic ?_
    refine zm 15 (fun w'=>w'.cell? ⟨wr.heap.size,0,none⟩=some (iV (a:Int))/\w'.cell? ⟨wr.heap.size,1,none⟩=some (iV xb)/\w'.cell? ⟨w.heap.size,a,none⟩=some (iV fv)) (by kernel_rfl) HS5.out (fun hHeld=>?_)
    refine utk (i:=0) rfl hHeld ?_
    refine utk (i:=1) rfl hHeld ?_
    refine utk (i:=2) rfl hHeld ?_
    refine utk (i:=3) rfl hHeld ?_
    refine utk (i:=4) rfl hHeld ?_
    refine utk (i:=5) rfl hHeld ?_
    refine utk (i:=6) rfl hHeld ?_
    refine utk (i:=7) rfl hHeld ?_
    refine utk (i:=8) rfl hHeld ?_
    refine utk (i:=9) rfl hHeld ?_
    refine utk (i:=10) rfl hHeld ?_
    refine utk (i:=11) rfl hHeld ?_
    refine utk (i:=12) rfl hHeld ?_
    refine utk (i:=13) rfl hHeld ?_
    refine utk (i:=14) rfl hHeld ?_
    refine ze (i:=15) rfl (by kernel_rfl) (fun K hK=>?_)
    go_simp
    refine nxt hK.out (.inl rfl) ?_
    clear hK K
    refine zq (by kernel_rfl) ?_ _
    refine NoPanic.normal ?_
    go_wp2_with fail
    go_roundw
    case rel=>exact⟨k+1,by omega,by go_num,HBV.out,HN.out _ rfl⟩
    case measure=>simp [intOf];omega
   ·have hnv:fv=(if fv<xb then xb else fv):=by rw [if_neg hmx]
    have HN:=z9 (HRS2.out fv hnv)
    have HBV:=z9 (HBW.out (iV fv))
    clear hnv HRS2 HBW
    go_wp2_with fail
    rw [HWE.out]
    clear c0 c1 c2 c3 c4
    refine wp_region_noPanic ?_
    refine zm 15 (fun w'=>w'.cell? ⟨wr.heap.size,0,none⟩=some (iV (a:Int))/\w'.cell? ⟨wr.heap.size,1,none⟩=some (iV xb)/\w'.cell? ⟨w.heap.size,a,none⟩=some (iV fv)) (by kernel_rfl) HS5.out (fun hHeld=>?_)
    refine utk (i:=0) rfl hHeld ?_
    refine utk (i:=1) rfl hHeld ?_
    refine utk (i:=2) rfl hHeld ?_
    refine utk (i:=3) rfl hHeld ?_
    refine utk (i:=4) rfl hHeld ?_
    refine utk (i:=5) rfl hHeld ?_
    refine utk (i:=6) rfl hHeld ?_
    refine utk (i:=7) rfl hHeld ?_
    refine utk (i:=8) rfl hHeld ?_
    refine utk (i:=9) rfl hHeld ?_
    refine utk (i:=10) rfl hHeld ?_
    refine utk (i:=11) rfl hHeld ?_
    refine utk (i:=12) rfl hHeld ?_
    refine utk (i:=13) rfl hHeld ?_
    refine utk (i:=14) rfl hHeld ?_
    refine ze (i:=15) rfl (by kernel_rfl) (fun K hK=>?_)
    go_simp
    refine nxt hK.out (.inl rfl) ?_
    clear hK K
    refine zq (by kernel_rfl) ?_ _
    refine NoPanic.normal ?_
    go_wp2_with fail
    go_roundw
    case rel=>exact⟨k+1,by omega,by go_num,HBV.out,HN.out _ rfl⟩
    case measure=>simp [intOf];omega
  ·have e:k=rs.length:=by omega
   subst e
   have hki:¬(rs.length:Int)<(rs.length:Int):=by omega
   have HLR:=z9 (HH.out.gE gH)
   have HLA:=z9 (HLR.out.gE (below_alloc1 wr (.map #[] 0)))
   have HXS:=z9 (HLA.out.setS HSV.out (some wr.heap.size))
   obtain⟨-,-,-,-,-,-,-,-,-,d9⟩:=HLA.out.cells
   have hfy:(wr.alloc (.map #[] 0)).frozen? ⟨c.y,9,none⟩=false:=by simp [World.frozen?,HLA.out.blk]
   have hyz:c.y<wr.heap.size:=by omega
   have HRX:Hid (zu ((wr.alloc (.map #[] 0)).setCell ⟨c.y,9,none⟩ (.map (some wr.heap.size))) w.heap.size 3 L.b.length (fun j=>iV (Vw L (j:Int)))):=((gI.alloc _).gF (show w.heap.size≠c.y by omega) _).congr fun j hj=>by rw [HFE.out j]
   have HMX:Hid (((wr.alloc (.map #[] 0)).setCell ⟨c.y,9,none⟩ (.map (some wr.heap.size))).heap[wr.heap.size]?=some (.map #[] 0)):=by
    show _=_
    rw [Below.heap_setCell _ _ _ _ (show wr.heap.size≠c.y by omega)]
    show (wr.heap.push _)[wr.heap.size]?=_
    simp
   have HBX:Hid (Below c.y w ((wr.alloc (.map #[] 0)).setCell ⟨c.y,9,none⟩ (.map (some wr.heap.size)))):=((HB.out.mono (Nat.le_of_lt hy)).trans ((below_alloc1 wr (.map #[] 0)).mono (Nat.le_of_lt hyz))).setCell (Nat.le_refl _) _
   have HM0:Hid (XE (yu L t K O) (zeb L) (X8 L) (Zt L 0) wr.heap.size ((wr.alloc (.map #[] 0)).setCell ⟨c.y,9,none⟩ (.map (some wr.heap.size)))):=(XE.made _ _ _ wr).gG (Below.heap_setCell _ _ _ _ (show wr.heap.size≠c.y by omega))
   have hmm:=@run_makeMap Tryz.prog
   clear gH gI HRW HLR HLA HB
   go_wp2_with fail
   clear hmm
   have hE:(wr.alloc (.map #[] 0)).setCell ⟨c.y,9,none⟩ (.map (some wr.heap.size))=(wr.setCell ⟨c.y,9,none⟩ (.map (some wr.heap.size))).alloc (.map #[] 0):=World.setCell_alloc_past _ _ _ _ (by simpa using hyz)
   rw [hE] at HXS HRX HMX HBX HM0
   obtain⟨X,hX⟩:∃X,(wr.setCell ⟨c.y,9,none⟩ (.map (some wr.heap.size))).alloc (.map #[] 0)=X:=⟨_,rfl⟩
   rw [hX] at HXS HRX HMX HBX HM0 ⊢
   obtain⟨M,hM⟩:∃M,wr.heap.size=M:=⟨_,rfl⟩
   rw [hM] at HXS HMX HM0 hyz hFz ⊢
   clear hE hX hM d9 hfy HRR HFR HD3 HC HH HFE
   have HGR:Hid (∀{u u':World},X.grownBy u (some M)->Below u.heap.size u u'->X.grownBy u' (some M)):=fun hg hb=>hg.andThen (row':=none) ⟨hb.os,hb.tape,hb.output,hb.size,fun i hi _=>hb.block i hi⟩ (fun j hj=>by cases hj)
   have HEND:Hid (∀u,X.grownBy u (some M)->Below c.y w u/\Zq { c with sv:=.map (some M) } L t K O u):=fun u hg=>⟨HBX.out.grown hg (by have:=HXS.out.lt;exact Nat.le_of_lt this) (fun j hj=>by injection hj with hj;omega),HXS.out.grown HMX.out hg⟩
   go_loopw [50] (fun i wr2=>∃s:Nat,s<=L.b.length/\i=iV s/\X.grownBy wr2 (some M)/\XE (yu L t K O) (zeb L) (X8 L) (Zt L s) M wr2/\zC (YV (yu L t K O)) (Zt L s)=true) (fun i _=>L.b.length - (intOf i).toNat)
   case atStart=>exact⟨0,Nat.zero_le _,rfl,⟨rfl,rfl,rfl,Nat.le_refl _,fun _ _ _=>rfl⟩,HM0.out,rfl⟩
   case round =>
    clear HM0
    obtain⟨s,hs,rfl,hgr,hms,hall⟩:=hrel
    have HG:=z9 hgr
    have HMS:=z9 hms
    have HA:=z9 hall
    clear hms hall
    by_cases hsl:s<L.b.length
    ·have hsi:(s:Int)<(L.b.length:Int):=by omega
     have cfs:=(za9 HMX.out hgr HRX.out).cell hsl
     have hFz2:=(za9 HMX.out hgr HRX.out).lt
     obtain⟨fl,hfl⟩:∃fl:Nat,Vw L (s:Int)=fl:=⟨yg L s,by unfold yg;have:=zh8 L (s:Int) L.b.length;unfold Vw;omega⟩
     have HFL:Hid (yg L s=fl):=by show _=_;unfold yg;rw [hfl];rfl
     have hf3:fl<=3:=by have:=HSM.out s;rw [HFL.out] at this;exact this
     rw [hfl] at cfs
     obtain⟨ps,hps⟩:∃ps,Zt L s=ps:=⟨_,rfl⟩
     have HPS1:Hid (Zt L (s+1)=ps+fl):=by show Zt L s+yg L s=_;rw [hps,HFL.out]
     have hpsm:ps<=48:=by have:=HPS.out s;omega
     have HFA2:Hid (∀q,q<fl->nth (yu L t K O) (ps+q)=(zr K O s - ((q:Int)+1)) % t.r/\nth (zeb L) (ps+q)=s/\nth (X8 L) (ps+q)=(q:Int)+1):=fun q hq=>by rw [<-hps];exact HFA.out s q hsl (by rw [HFL.out];exact hq)
     have HLT:Hid (∀q,q<fl->ps+q<Zt L L.b.length):=fun q hq=>by rw [<-hps];exact yal hsl (by rw [HFL.out];exact hq)
     rw [hps] at HMS HA
     obtain⟨pl0,pl1⟩:=HPL.out s hsl
     clear hgr hfl hps
     go_wp2_with fail
     rename World=>wo
     go_loopw [8] (fun bv wr3=>∃q:Nat,q<=fl/\bv=iV ((q:Int)+1)/\X.grownBy wr3 (some M)/\XE (yu L t K O) (zeb L) (X8 L) (ps+q) M wr3/\zC (YV (yu L t K O)) (ps+q)=true) (fun bv _=>fl+1 - (intOf bv).toNat)
     case atStart=>exact⟨0,Nat.zero_le _,rfl,HG.out,HMS.out,HA.out⟩
     case round =>
      clear HG HMS HA
      obtain⟨q,hq,rfl,hgr,hms,hall⟩:=hrel
      have HG:=z9 hgr
      have HA:=z9 hall
      by_cases hql:q<fl
      ·have hqi:(q:Int)+1<=(fl:Int):=by omega
       have HLR:=z9 (HXS.out.grown HMX.out hgr)
       obtain⟨-,-,-,-,-,-,-,y7,-,y9⟩:=HLR.out.cells
       have pc:=HLR.out.pl.cell hsl
       have hpz:=HLR.out.pl.lt
       have hyz3:=HLR.out.lt
       obtain⟨cp1,cp2⟩:=HLR.out.cp
       unfold maxLen at cp2
       simp only at y7 y9 pc hpz hyz3 cp1 cp2
       obtain⟨f1,f2,f3⟩:=HFA2.out q hql
       have HLE:=z9 (U0 { c with sv:=.map (some M) } L t K O (zr K O s - ((q:Int)+1)) wr HLR.out hr1 hr2 (by omega) (by omega))
       rw [<-f1] at HLE
       have hzr:=HFG.out (ps+q) (HLT.out q hql)
       have hzr2:0<=nth (yu L t K O) (ps+q)/\nth (yu L t K O) (ps+q)<t.r:=hzr
       have hw1:wrap64 (zr K O s - ((q:Int)+1))=zr K O s - ((q:Int)+1):=by unfold wrap64;omega
       have HMS:=z9 hms
       have HF:=z9 (And.intro f1 (And.intro f2 f3))
       obtain⟨z,hzz⟩:∃z,nth (yu L t K O) (ps+q)=z:=⟨_,rfl⟩
       rw [hzz] at HLE hzr2
       have HZ:=z9 hzz
       have hwz:=zea (z:=z) (by omega) (by omega)
       clear hgr hms hall hzr f1 f2 f3 hzz
       generalize zr K O s=pp at *
       go_wp2_with fail
       refine HLE.out.mono ?_
       rintro e w1 ⟨rfl,n1,rfl⟩
       obtain⟨U,hU⟩:∃U,wr.drewN n1=U:=⟨_,rfl⟩
       have hgU:X.grownBy U (some M):=by rw [<-hU];exact HGR.out HG.out (below_draws _ _ _)
       have hmU:XE (yu L t K O) (zeb L) (X8 L) (ps+q) M U:=by rw [<-hU];exact HMS.out.gG rfl
       have y9U:U.cell? ⟨c.y,9,none⟩=some (.map (some M)):=by rw [<-hU];exact y9
       have hyU:c.y<U.heap.size:=by rw [<-hU];exact hyz3
       rw [hU]
       obtain⟨ga,gq,ok,hlk,hok⟩:=hmU.look z hwz
       have HGU:=z9 hgU
       have HMU:=z9 hmU
       have HOK:=z9 hok
       clear hU hgU hmU y7 y9 pc hpz hyz3 cp1 cp2 HLR HLE hw1 hok HG HMS
       cases ok with
       | true =>
         have HN:Hid (Zw L t K O=false):=by
          show _=_
          rw [HD.out]
          refine zZ (HLT.out q hql) ?_
          obtain⟨i,hi,e⟩:=HOK.out.1 rfl
          show YV (yu L t K O) (ps+q)=false
          unfold YV
          refine zZ hi ?_
          rw [e,HZ.out,decide_eq_true rfl];rfl
         obtain⟨he1,he2⟩:=HEND.out _ (HGR.out HGU.out (below_alloc1 U (.cells #[iV ga,iV gq] 39)))
         have HE1:=z9 he1
         have HE2:=z9 he2
         clear he1 he2 HOK
         go_wp2_with fail
         go_ret
         exact⟨zg HN.out.symm,HE1.out,M,HE2.out,fun h=>by rw [HN.out] at h;cases h⟩
       | false =>
         have HMA:=z9 (HMU.out.gG (Below.heap_alloc U (.cells #[iV ga,iV gq] 39) M HMU.out.lt))
         have hnone:∀i,i<ps+q->nth (yu L t K O) i≠nth (yu L t K O) (ps+q):=fun i hi e=>by
          have:=HOK.out.2 ⟨i,hi,by rw [e,HZ.out]⟩
          cases this
         obtain⟨x',hup,hg',hm'⟩:=HMA.out.put (by unfold maxLen;omega) (by rw [HZ.out];exact hwz) hnone
         rw [HZ.out,HF.out.2.1,HF.out.2.2] at hup
         have HGX:Hid (X.grownBy x' (some M)):=(HGR.out HGU.out (below_alloc1 U (.cells #[iV ga,iV gq] 39))).andThen hg' (fun j hj=>.inr hj)
         have HMX':=z9 hm'
         have y9A:(U.alloc (.cells #[iV ga,iV gq] 39)).cell? ⟨c.y,9,none⟩=some (.map (some M)):=(zf (below_alloc1 U _) c.y 9 hyU).trans y9U
         have HFR:Hid (zC (YV (yu L t K O)) (ps+(q+1))=true):=yl (k:=ps+q) HA.out (zL fun i hi=>by
          show (!decide (nth (yu L t K O) i=nth (yu L t K O) (ps+q)))=true
          rw [decide_eq_false (hnone i hi)];rfl)
         clear hnone hg' hm' HOK HMU HMA
         go_wp2_with fail
         go_roundw
         case rel=>exact⟨q+1,by omega,by go_num,HGX.out,HMX'.out,HFR.out⟩
         case measure=>simp [intOf];omega
      ·have e:q=fl:=by omega
       subst e
       have hqi:¬(q:Int)+1<=(q:Int):=by omega
       have HMS:=z9 hms
       clear hgr hms hall
       go_wp2_with fail
       go_roundw
       case rel=>exact⟨s+1,by omega,by go_num,HG.out,by rw [HPS1.out];exact HMS.out,by rw [HPS1.out];exact HA.out⟩
       case measure=>simp [intOf];omega
    ·have e:s=L.b.length:=by omega
     subst e
     have hsi:¬(L.b.length:Int)<(L.b.length:Int):=by omega
     have HN:Hid (Zw L t K O=true):=by show _=_;rw [HD.out,HA.out]
     obtain⟨he1,he2⟩:=HEND.out _ hgr
     have HE1:=z9 he1
     have HE2:=z9 he2
     clear hgr he1 he2
     go_wp2_with fail
     go_ret
     exact⟨zg HN.out.symm,HE1.out,M,HE2.out,fun _=>HMS.out⟩
theorem zcn (hM:zbv) (p0 p1 p2 q0 q1 q2 r pc st:Int) (ops:List Kop) (L:Lp) (O:List Int) (a0 a1 a2 ka oa:Option Addr) (gA gB gC kc oc:Nat) (w:World) (hL:zE w (.agg #[.slice a0 L.l.length gA,.slice a1 L.b.length gB,.slice a2 L.o.length gC]) L) (hK:Zf w (.slice ka ops.length kc) ops) (hO:zK w (.slice oa O.length oc) O) :
  Calls Tryz.prog 71 #[.agg #[.slice a0 L.l.length gA,.slice a1 L.b.length gB,.slice a2 L.o.length gC],.agg #[iV p0,iV p1,iV p2,iV q0,iV q1,iV q2,iV r],.agg #[iV pc,iV st,.slice ka ops.length kc],.slice oa O.length oc] w fun e w'=>e=.returned (.bool (xD L ⟨p0,p1,p2,q0,q1,q2,r⟩ ⟨pc,st,ops⟩ O))/\Below w.heap.size w w':=by
 by_cases h1:ops.length=L.b.length
 ·by_cases h2:O.length=L.b.length
  ·cases hm:zY L with
   | false=>exact zcp hM p0 p1 p2 q0 q1 q2 r pc st ops L O a0 a1 a2 ka oa gA gB gC kc oc w hL hK hO h1 h2 (.inl hm)
   | true =>
     cases hk:Yv ⟨p0,p1,p2,q0,q1,q2,r⟩ ⟨pc,st,ops⟩ L.l with
     | false=>exact zcp hM p0 p1 p2 q0 q1 q2 r pc st ops L O a0 a1 a2 ka oa gA gB gC kc oc w hL hK hO h1 h2 (.inr ⟨hm,hk⟩)
     | true=>exact zig hM p0 p1 p2 q0 q1 q2 r pc st ops L O a0 a1 a2 ka oa gA gB gC kc oc w hL hK hO h1 h2 hm hk
  ·exact zco hM p0 p1 p2 q0 q1 q2 r pc st ops L O a0 a1 a2 ka oa gA gB gC kc oc w hL hK hO (.inr h2)
 ·exact zco hM p0 p1 p2 q0 q1 q2 r pc st ops L O a0 a1 a2 ka oa gA gB gC kc oc w hL hK hO (.inl h1)
theorem ztj (p0 p1 p2 q0 q1 q2 r pc st:Int) (ops:List Kop) (L:Lp) (O:List Int) (a0 a1 a2 ka oa:Option Addr) (gA gB gC kc oc:Nat) (w:World) (hL:zE w (.agg #[.slice a0 L.l.length gA,.slice a1 L.b.length gB,.slice a2 L.o.length gC]) L) (hK:Zf w (.slice ka ops.length kc) ops) (hO:zK w (.slice oa O.length oc) O) (hl:xD L ⟨p0,p1,p2,q0,q1,q2,r⟩ ⟨pc,st,ops⟩ O=true) :
  Calls Tryz.prog 72 #[.agg #[.slice a0 L.l.length gA,.slice a1 L.b.length gB,.slice a2 L.o.length gC],.agg #[iV p0,iV p1,iV p2,iV q0,iV q1,iV q2,iV r],.agg #[iV pc,iV st,.slice ka ops.length kc],.slice oa O.length oc] w fun e w'=>∃c:Lc,e=.returned (.pointer (some ⟨c.y,0,none⟩))/\Below w.heap.size w w'/\w.heap.size<=c.y/\c.sv=.map none/\Zq c L ⟨p0,p1,p2,q0,q1,q2,r⟩ ⟨pc,st,ops⟩ O w':=by
 obtain⟨hm,hmt,hmk,h4,h5,h6⟩:=yP hl
 simp only at h4
 obtain⟨-,hn1,hn16,-⟩:=zw hm
 have hL':=hL
 obtain⟨v0,v1,v2,hv,-,⟨a1',c1',hv1,hl1,hl2,hl3⟩,-⟩:=hL'
 obtain⟨e0,e1,e2⟩:(.slice a0 L.l.length gA:Value)=v0/\(.slice a1 L.b.length gB:Value)=v1/\(.slice a2 L.o.length gC:Value)=v2:=by
  injection hv with hv
  have:=congrArg Array.toList hv
  simpa using this
 rw [hv1] at e1
 injection e1 with e1 ex1 e1'
 subst e1;subst e1'
 unfold maxLen at hl2
 obtain⟨bb,bo,rfl,hbb,gQ⟩:=hl3 (by omega)
 obtain⟨ka',kc',hke,hk1,hk2,hk3⟩:=hK
 injection hke with e1 ex2 e1'
 subst e1;subst e1'
 unfold maxLen at hk2
 obtain⟨kb,ko,rfl,hkb,hops⟩:=hk3 (by omega)
 obtain⟨oa',oc',hoe,ho1,ho2,hor,ho3⟩:=hO
 injection hoe with e1 ex3 e1'
 subst e1;subst e1'
 unfold maxLen at ho2
 obtain⟨ob,oo,rfl,hob,hord⟩:=ho3 (by omega)
 refine (zpj p0 p1 p2 q0 q1 q2 r pc st ops L O a0 a2 bb bo kb ko ob oo gA gB gC kc oc w hl hbb hl1 (by omega) gQ hkb hk1 (by omega) hops hob ho1 (by omega) hord).mono ?_
 rintro e w' ⟨rfl,hb,ta,tc,ra,rc,pa,pq,da,dc,hly⟩
 obtain⟨tb,rb,pb,h⟩:=Zq.of (t:=⟨p0,p1,p2,q0,q1,q2,r⟩) (K:=⟨pc,st,ops⟩) hly hn1 (hL.gE hb)
 exact⟨_,rfl,hb,by show w.heap.size<=w.heap.size+1+1+1;omega,rfl,h⟩
def UO (L:Lp) (t:Tg) (K:Kn) (O:List Int) (w:World) (e:Ending) (w':World):Prop :=
 ∃pv,e=.returned (.tuple #[pv,.bool (zQ L t K O)])/\Below w.heap.size w w'/\(zQ L t K O=true->∃c M,pv=.pointer (some ⟨c.y,0,none⟩)/\c.sv=.map (some M)/\Zq c L t K O w'/\XE (yu L t K O) (zeb L) (X8 L) (Zt L L.b.length) M w')
theorem zgj {pv:Value} (h:zQ L t K O=false) (hb:Below w.heap.size w w'):UO L t K O w (.returned (.tuple #[pv,.bool false])) w' :=
 ⟨pv,by rw [h],hb,fun h2=>by rw [h] at h2;cases h2⟩
theorem zto (hM:zbv) (p0 p1 p2 q0 q1 q2 r pc st:Int) (ops:List Kop) (L:Lp) (O:List Int) (a0 a1 a2 ka oa:Option Addr) (gA gB gC kc oc:Nat) (w:World) (hL:zE w (.agg #[.slice a0 L.l.length gA,.slice a1 L.b.length gB,.slice a2 L.o.length gC]) L) (hK:Zf w (.slice ka ops.length kc) ops) (hO:zK w (.slice oa O.length oc) O) (hl:xD L ⟨p0,p1,p2,q0,q1,q2,r⟩ ⟨pc,st,ops⟩ O=false) :
  Calls Tryz.prog 31 #[.agg #[.slice a0 L.l.length gA,.slice a1 L.b.length gB,.slice a2 L.o.length gC],.agg #[iV p0,iV p1,iV p2,iV q0,iV q1,iV q2,iV r],.agg #[iV pc,iV st,.slice ka ops.length kc],.slice oa O.length oc] w (UO L ⟨p0,p1,p2,q0,q1,q2,r⟩ ⟨pc,st,ops⟩ O w):=by
 have HBZ:=z9 (below_alloc3 w (.cells #[.slice a0 L.l.length gA,.slice a1 L.b.length gB,.slice a2 L.o.length gC] 25) (.cells #[iV p0,iV p1,iV p2,iV q0,iV q1,iV q2,iV r] 28) (.cells #[iV pc,iV st,.slice ka ops.length kc] 31))
 have HMA:=z9 (zcn hM p0 p1 p2 q0 q1 q2 r pc st ops L O a0 a1 a2 ka oa gA gB gC kc oc (((w.alloc (.cells #[.slice a0 L.l.length gA,.slice a1 L.b.length gB,.slice a2 L.o.length gC] 25)).alloc (.cells #[iV p0,iV p1,iV p2,iV q0,iV q1,iV q2,iV r] 28)).alloc (.cells #[iV pc,iV st,.slice ka ops.length kc] 31)) (hL.gE HBZ.out) (hK.gE HBZ.out) (hO.gE HBZ.out))
 have HN:=z9 (zat hl)
 have HS3:Hid ((((w.alloc (.cells #[.slice a0 L.l.length gA,.slice a1 L.b.length gB,.slice a2 L.o.length gC] 25)).alloc (.cells #[iV p0,iV p1,iV p2,iV q0,iV q1,iV q2,iV r] 28)).alloc (.cells #[iV pc,iV st,.slice ka ops.length kc] 31)).heap.size=w.heap.size+1+1+1):=by show _=_;simp
 rw [hl] at HMA
 clear hL hK hO hM hl
 go_enter Tryz.func31,Tryz.ntmps31
 go_wp2_with fail
 refine HMA.out.mono ?_
 rintro e x1 ⟨rfl,hb⟩
 have HBX:=z9 (HBZ.out.trans (hb.mono (by rw [HS3.out];omega)))
 clear hb
 go_wp2_with fail
 exact bodyPost_ret (v:=.tuple #[.pointer none,.bool false]) (by simp [results,Tryz.results31,go_sem]) rfl (zgj HN.out HBX.out)
theorem zpw (hM:zbv) (hE:Zv) (p0 p1 p2 q0 q1 q2 r pc st:Int) (ops:List Kop) (L:Lp) (O:List Int) (a0 a1 a2 ka oa:Option Addr) (gA gB gC kc oc:Nat) (w:World) (hL:zE w (.agg #[.slice a0 L.l.length gA,.slice a1 L.b.length gB,.slice a2 L.o.length gC]) L) (hK:Zf w (.slice ka ops.length kc) ops) (hO:zK w (.slice oa O.length oc) O) (hl:xD L ⟨p0,p1,p2,q0,q1,q2,r⟩ ⟨pc,st,ops⟩ O=true) :
  Calls Tryz.prog 31 #[.agg #[.slice a0 L.l.length gA,.slice a1 L.b.length gB,.slice a2 L.o.length gC],.agg #[iV p0,iV p1,iV p2,iV q0,iV q1,iV q2,iV r],.agg #[iV pc,iV st,.slice ka ops.length kc],.slice oa O.length oc] w (UO L ⟨p0,p1,p2,q0,q1,q2,r⟩ ⟨pc,st,ops⟩ O w):=by
 have HBZ:=z9 (below_alloc3 w (.cells #[.slice a0 L.l.length gA,.slice a1 L.b.length gB,.slice a2 L.o.length gC] 25) (.cells #[iV p0,iV p1,iV p2,iV q0,iV q1,iV q2,iV r] 28) (.cells #[iV pc,iV st,.slice ka ops.length kc] 31))
 have HMA:=z9 (zcn hM p0 p1 p2 q0 q1 q2 r pc st ops L O a0 a1 a2 ka oa gA gB gC kc oc (((w.alloc (.cells #[.slice a0 L.l.length gA,.slice a1 L.b.length gB,.slice a2 L.o.length gC] 25)).alloc (.cells #[iV p0,iV p1,iV p2,iV q0,iV q1,iV q2,iV r] 28)).alloc (.cells #[iV pc,iV st,.slice ka ops.length kc] 31)) (hL.gE HBZ.out) (hK.gE HBZ.out) (hO.gE HBZ.out))
 have HLA:=z9 (fun W (hb:Below w.heap.size w W)=>ztj p0 p1 p2 q0 q1 q2 r pc st ops L O a0 a1 a2 ka oa gA gB gC kc oc W (hL.gE hb) (hK.gE hb) (hO.gE hb) hl)
 have HTE:=z9 (zdx hl)
 have HS3:Hid ((((w.alloc (.cells #[.slice a0 L.l.length gA,.slice a1 L.b.length gB,.slice a2 L.o.length gC] 25)).alloc (.cells #[iV p0,iV p1,iV p2,iV q0,iV q1,iV q2,iV r] 28)).alloc (.cells #[iV pc,iV st,.slice ka ops.length kc] 31)).heap.size=w.heap.size+1+1+1):=by show _=_;simp
 have HBE:=z9 (fun c m W h hs=>zic c L ⟨p0,p1,p2,q0,q1,q2,r⟩ ⟨pc,st,ops⟩ O m W h hs hl)
 have HWA:=z9 (fun c W h=>zlm hE c L ⟨p0,p1,p2,q0,q1,q2,r⟩ ⟨pc,st,ops⟩ O W h hl)
 have HNA:=z9 (fun c W h=>zlf c L ⟨p0,p1,p2,q0,q1,q2,r⟩ ⟨pc,st,ops⟩ O W h hl)
 have HKE:=z9 (fun c W h=>zld c L ⟨p0,p1,p2,q0,q1,q2,r⟩ ⟨pc,st,ops⟩ O W h hl)
 have HEN:=z9 (fun c W h=>zpi c L ⟨p0,p1,p2,q0,q1,q2,r⟩ ⟨pc,st,ops⟩ O W h hl)
 rw [hl] at HMA
 clear hL hK hO hM hE hl
 go_enter Tryz.func31,Tryz.ntmps31
 go_wp2_with fail
 refine HMA.out.mono ?_
 rintro e x1 ⟨rfl,hb⟩
 rw [HS3.out] at hb
 have HB1:=z9 hb
 obtain⟨⟨l0,l1,l2⟩,⟨t0,t1,t2,t3,t4,t5,t6⟩,⟨k0,k1,k2⟩,hz,hbw⟩:=yy hb
 have HBX:=z9 hbw
 clear hb hbw HMA HBZ
 go_wp2_with fail
 refine (HLA.out x1 HBX.out).mono ?_
 rintro e x2 ⟨c,rfl,hb,hcy,hsv,hlr⟩
 have hx1:w.heap.size+1+1+1<=x1.heap.size:=by have:=HB1.out.size;rw [HS3.out] at this;exact this
 have HB2:=z9 (HB1.out.trans (hb.mono hx1))
 have HLR2:=z9 hlr
 have HSV:=z9 hsv
 have hcw:w.heap.size+1+1+1<=c.y:=by omega
 clear hb hlr hsv HLA l0 l1 l2 t0 t1 t2 t3 t4 t5 t6 k0 k1 k2 hz
 obtain⟨⟨l0,l1,l2⟩,⟨t0,t1,t2,t3,t4,t5,t6⟩,⟨k0,k1,k2⟩,hz,hbw⟩:=yy HB2.out
 have gT:=z9 hbw
 clear hbw HB1 HBX
 go_wp2_with fail
 refine (HBE.out c none x2 HLR2.out HSV.out).mono ?_
 rintro e x3 ⟨rfl,hb,M,hlr,hms⟩
 have HB3:=z9 (HB2.out.trans (hb.mono hcw))
 have HLR3:=z9 hlr
 have HMS:=z9 hms
 clear hb hlr hms l0 l1 l2 t0 t1 t2 t3 t4 t5 t6 k0 k1 k2 hz HLR2 HSV HBE
 obtain⟨⟨l0,l1,l2⟩,⟨t0,t1,t2,t3,t4,t5,t6⟩,⟨k0,k1,k2⟩,hz,hbw⟩:=yy HB3.out
 have HBX3:=z9 hbw
 clear hbw HB2 gT
 cases h1:Zw L ⟨p0,p1,p2,q0,q1,q2,r⟩ ⟨pc,st,ops⟩ O with
 | false =>
   have HN:Hid (zQ L ⟨p0,p1,p2,q0,q1,q2,r⟩ ⟨pc,st,ops⟩ O=false):=by show _=_;rw [HTE.out,h1];simp
   clear h1
   go_wp2_with fail
   exact bodyPost_ret (v:=.tuple #[.pointer (some ⟨c.y,0,none⟩),.bool false]) (by simp [results,Tryz.results31,go_sem]) rfl (zgj HN.out HBX3.out)
 | true =>
   have H1:=z9 h1
   clear h1
   go_wp2_with fail
   refine (HWA.out { c with sv:=.map (some M) } x3 HLR3.out).mono ?_
   rintro e x4 ⟨rfl,hb⟩
   have HB4:=z9 (HB3.out.trans (hb.mono (by have:=HB3.out.size;rw [HS3.out] at this;exact this)))
   have HLR4:=z9 (HLR3.out.gE hb)
   have HM4:=z9 (hb.block M)
   have HMZ4:=z9 hb.size
   clear hb l0 l1 l2 t0 t1 t2 t3 t4 t5 t6 k0 k1 k2 hz
   obtain⟨⟨l0,l1,l2⟩,⟨t0,t1,t2,t3,t4,t5,t6⟩,⟨k0,k1,k2⟩,hz,hbw⟩:=yy HB4.out
   have HBX4:=z9 hbw
   clear hbw
   cases h2:XC L ⟨p0,p1,p2,q0,q1,q2,r⟩ ⟨pc,st,ops⟩ O with
   | false =>
     have HN:Hid (zQ L ⟨p0,p1,p2,q0,q1,q2,r⟩ ⟨pc,st,ops⟩ O=false):=by show _=_;rw [HTE.out,h2];simp
     clear h2
     go_wp2_with fail
     exact bodyPost_ret (v:=.tuple #[.pointer (some ⟨c.y,0,none⟩),.bool false]) (by simp [results,Tryz.results31,go_sem]) rfl (zgj HN.out HBX4.out)
   | true =>
     have H2:=z9 h2
     clear h2
     go_wp2_with fail
     refine (HNA.out { c with sv:=.map (some M) } x4 HLR4.out).mono ?_
     rintro e x5 ⟨rfl,hb⟩
     have HB5:=z9 (HB4.out.trans (hb.mono (by have:=HB4.out.size;rw [HS3.out] at this;exact this)))
     have HLR5:=z9 (HLR4.out.gE hb)
     have HM5:=z9 (hb.block M)
     have HMZ5:=z9 hb.size
     clear hb l0 l1 l2 t0 t1 t2 t3 t4 t5 t6 k0 k1 k2 hz
     obtain⟨⟨l0,l1,l2⟩,⟨t0,t1,t2,t3,t4,t5,t6⟩,⟨k0,k1,k2⟩,hz,hbw⟩:=yy HB5.out
     have HBX5:=z9 hbw
     clear hbw
     cases h3:YW L ⟨p0,p1,p2,q0,q1,q2,r⟩ ⟨pc,st,ops⟩ O with
     | false =>
       have HN:Hid (zQ L ⟨p0,p1,p2,q0,q1,q2,r⟩ ⟨pc,st,ops⟩ O=false):=by show _=_;rw [HTE.out,h3];simp
       clear h3
       go_wp2_with fail
       exact bodyPost_ret (v:=.tuple #[.pointer (some ⟨c.y,0,none⟩),.bool false]) (by simp [results,Tryz.results31,go_sem]) rfl (zgj HN.out HBX5.out)
     | true =>
       have H3:=z9 h3
       clear h3
       go_wp2_with fail
       refine (HKE.out { c with sv:=.map (some M) } x5 HLR5.out).mono ?_
       rintro e x6 ⟨rfl,hb⟩
       have HB6:=z9 (HB5.out.trans (hb.mono (by have:=HB5.out.size;rw [HS3.out] at this;exact this)))
       have HLR6:=z9 (HLR5.out.gE hb)
       have HM6:=z9 (hb.block M)
       have HMZ6:=z9 hb.size
       clear hb l0 l1 l2 t0 t1 t2 t3 t4 t5 t6 k0 k1 k2 hz
       obtain⟨⟨l0,l1,l2⟩,⟨t0,t1,t2,t3,t4,t5,t6⟩,⟨k0,k1,k2⟩,hz,hbw⟩:=yy HB6.out
       have HBX6:=z9 hbw
       clear hbw
       cases h4:Yu L ⟨p0,p1,p2,q0,q1,q2,r⟩ ⟨pc,st,ops⟩ O with
       | false =>
         have HN:Hid (zQ L ⟨p0,p1,p2,q0,q1,q2,r⟩ ⟨pc,st,ops⟩ O=false):=by show _=_;rw [HTE.out,h4];simp
         clear h4
         go_wp2_with fail
         exact bodyPost_ret (v:=.tuple #[.pointer (some ⟨c.y,0,none⟩),.bool false]) (by simp [results,Tryz.results31,go_sem]) rfl (zgj HN.out HBX6.out)
       | true =>
         have H4:=z9 h4
         clear h4
         go_wp2_with fail
         refine (HEN.out { c with sv:=.map (some M) } x6 HLR6.out).mono ?_
         rintro e x7 ⟨rfl,hb⟩
         have HB7:=z9 (HB6.out.trans (hb.mono (by have:=HB6.out.size;rw [HS3.out] at this;exact this)))
         have HLR7:=z9 (HLR6.out.gE hb)
         have HM7:=z9 (hb.block M)
         have HMZ7:=z9 hb.size
         clear hb l0 l1 l2 t0 t1 t2 t3 t4 t5 t6 k0 k1 k2 hz
         obtain⟨⟨l0,l1,l2⟩,⟨t0,t1,t2,t3,t4,t5,t6⟩,⟨k0,k1,k2⟩,hz,hbw⟩:=yy HB7.out
         have HBX7:=z9 hbw
         clear hbw
         cases h5:Ve L ⟨p0,p1,p2,q0,q1,q2,r⟩ ⟨pc,st,ops⟩ O with
         | false =>
           have HN:Hid (zQ L ⟨p0,p1,p2,q0,q1,q2,r⟩ ⟨pc,st,ops⟩ O=false):=by show _=_;rw [HTE.out,h5];simp
           clear h5
           go_wp2_with fail
           exact bodyPost_ret (v:=.tuple #[.pointer (some ⟨c.y,0,none⟩),.bool false]) (by simp [results,Tryz.results31,go_sem]) rfl (zgj HN.out HBX7.out)
         | true =>
           have HN:Hid (zQ L ⟨p0,p1,p2,q0,q1,q2,r⟩ ⟨pc,st,ops⟩ O=true):=by show _=_;rw [HTE.out,H1.out,H2.out,H3.out,H4.out,h5];rfl
           have HM3:=z9 (HMS.out H1.out)
           have HMF:Hid (XE (yu L ⟨p0,p1,p2,q0,q1,q2,r⟩ ⟨pc,st,ops⟩ O) (zeb L) (X8 L) (Zt L L.b.length) M x7):=by
            have h0:=HM3.out.lt
            have e4:=HM4.out h0
            have z4:=HMZ4.out
            have e5:=HM5.out (by omega)
            have z5:=HMZ5.out
            have e6:=HM6.out (by omega)
            have z6:=HMZ6.out
            have e7:=HM7.out (by omega)
            exact HM3.out.gG (e7.trans (e6.trans (e5.trans e4)))
           clear h5
           go_wp2_with fail
           exact bodyPost_ret (v:=.tuple #[.pointer (some ⟨c.y,0,none⟩),.bool true]) (by simp [results,Tryz.results31,go_sem]) rfl ⟨_,by rw [HN.out],HBX7.out,fun _=>⟨{ c with sv:=.map (some M) },M,rfl,rfl,HLR7.out,HMF.out⟩⟩
theorem zf2 (hM:zbv) (hE:Zv) (p0 p1 p2 q0 q1 q2 r pc st:Int) (ops:List Kop) (L:Lp) (O:List Int) (a0 a1 a2 ka oa:Option Addr) (gA gB gC kc oc:Nat) (w:World) (hL:zE w (.agg #[.slice a0 L.l.length gA,.slice a1 L.b.length gB,.slice a2 L.o.length gC]) L) (hK:Zf w (.slice ka ops.length kc) ops) (hO:zK w (.slice oa O.length oc) O) :
  Calls Tryz.prog 31 #[.agg #[.slice a0 L.l.length gA,.slice a1 L.b.length gB,.slice a2 L.o.length gC],.agg #[iV p0,iV p1,iV p2,iV q0,iV q1,iV q2,iV r],.agg #[iV pc,iV st,.slice ka ops.length kc],.slice oa O.length oc] w (UO L ⟨p0,p1,p2,q0,q1,q2,r⟩ ⟨pc,st,ops⟩ O w):=by
 cases hl:xD L ⟨p0,p1,p2,q0,q1,q2,r⟩ ⟨pc,st,ops⟩ O with
 | false=>exact zto hM p0 p1 p2 q0 q1 q2 r pc st ops L O a0 a1 a2 ka oa gA gB gC kc oc w hL hK hO hl
 | true=>exact zpw hM hE p0 p1 p2 q0 q1 q2 r pc st ops L O a0 a1 a2 ka oa gA gB gC kc oc w hL hK hO hl
theorem zbk {kv ov:Value} (hL:zE w v L) (hK:xF w kv K) (hO:zK w ov O):∃a0 a1 a2 ka oa gA gB gC kc oc,v=.agg #[.slice a0 L.l.length gA,.slice a1 L.b.length gB,.slice a2 L.o.length gC]/\kv=.agg #[iV K.pc,iV K.st,.slice ka K.ops.length kc]/\ov=.slice oa O.length oc/\Zf w (.slice ka K.ops.length kc) K.ops:=by
 obtain⟨v0,v1,v2,rfl,⟨a0,gA,rfl,-⟩,⟨a1,gB,rfl,-⟩,⟨a2,gC,rfl,-⟩⟩:=hL
 obtain⟨kl,rfl,hOp⟩:=hK
 have hOp':=hOp
 obtain⟨ka,kc,rfl,-⟩:=hOp'
 obtain⟨oa,oc,rfl,-⟩:=hO
 exact⟨a0,a1,a2,ka,oa,gA,gB,gC,kc,oc,rfl,rfl,rfl,hOp⟩
end Go.Proofs.YtjoapiafpahihabGreat
