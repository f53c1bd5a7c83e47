import Derived.Test.YtjoapiafpahihabGreatSounds
namespace Go.Proofs.YtjoapiafpahihabGreat
set_option linter.unusedVariables false
theorem zab {n d q:Int} (hd:0<d) (h1:q*d<=n) (h2:n<(q+1)*d):n / d=q:=by
 have h3:=(Int.le_ediv_iff_mul_le hd).2 h1
 have h4:=(Int.ediv_lt_iff_lt_mul hd).2 h2
 omega
theorem zlr {n d:Int} (hd:0<d) (h:¬n.tmod d<0):n.tdiv d=n / d:=by
 have h1:=Int.tmod_lt_of_pos n hd
 have h3:=Int.mul_tdiv_add_tmod n d
 rw [Int.mul_comm] at h3
 refine (zab hd ?_ ?_).symm
 ·omega
 ·rw [Int.add_mul];omega
theorem ziz {n d:Int} (hd:0<d) (h:n.tmod d<0):n.tdiv d - 1=n / d:=by
 have h1:=Int.lt_tmod_of_pos n hd
 have h3:=Int.mul_tdiv_add_tmod n d
 rw [Int.mul_comm] at h3
 refine (zab hd ?_ ?_).symm
 ·rw [Int.sub_mul];omega
 ·rw [show n.tdiv d - 1+1=n.tdiv d by omega];omega
theorem zmg {a r:Int} (h:0<=a) (hr:0<r):a % r<=a:=by
 have h1:=Int.mul_ediv_add_emod a r
 have h2:0<=r*(a / r):=Int.mul_nonneg (by omega) (Int.ediv_nonneg h (by omega))
 omega
def zhl (p q first last r:Int):Bool:=decide (first+(p - q - first) % r<=last)
theorem YE {p q first last r:Int} (hr:0<r):zhl p q first last r=true↔∃j,first<=j/\j<=last/\(q+j - p) % r=0:=by
 unfold zhl
 rw [decide_eq_true_iff]
 constructor
 ·intro h
  have h0:=Int.emod_nonneg (p - q - first) (by omega:r≠0)
  refine⟨first+(p - q - first) % r,by omega,h,?_⟩
  have h1:=Int.emod_def (p - q - first) r
  rw [show q+(first+(p - q - first) % r) - p=r*(-((p - q - first) / r)) by rw [h1,Int.mul_neg];omega]
  exact Int.mul_emod_right _ _
 ·rintro ⟨j,h1,h2,h3⟩
  obtain⟨c,hc⟩:=Int.dvd_of_emod_eq_zero h3
  have e:(p - q - first) % r=(j - first) % r:=by
   rw [show p - q - first=j - first+r*(-c) by rw [Int.mul_neg];omega]
   exact Int.add_mul_emod_self_left _ _ _
  have h4:=zmg (show 0<=j - first by omega) hr
  omega
section
variable (L:Lp) (t:Tg) (K:Kn) (O:List Int)
def Uq (a m:Nat):Int:=if m=a then 1 else -((zA t K O m - zA t K O a) / K.pc)
def zou (a:Nat) (bk:Int) (m:Nat):Int:=if 0<bk then min (Uq t K O a m) 1 else Uq t K O a m
def zm2 (u:Int) (m:Nat):Int:=(u - zA t K O m) / K.pc
def Yg (a:Nat) (bk u:Int) (m:Nat):Bool:=zhl (zm K O a) (zm K O m) (zou t K O a bk m) (zm2 t K O u m) t.r
def YH (a m:Nat):Bool:=zhl (zm K O a) (zm K O m) (Uq t K O a m) 0 t.r
end
variable {L:Lp} {t:Tg} {K:Kn} {O:List Int}
theorem Yu {f:Nat->Bool} {n:Nat}:zh f n=true↔∀i,i<n->f i=true:=⟨fun h i hi=>zl h i hi,zN⟩
theorem zbf {f g:Nat->Bool} {n m:Nat} (h:(∀i,i<n->f i=true)↔∀i,i<m->g i=true):zh f n=zh g m:=Bool.eq_iff_iff.2 (Yu.trans (h.trans Yu.symm))
theorem zd9 {x u c j:Int} (hc:0<c):x+j*c<=u↔j<=(u - x) / c:=by
 rw [Int.le_ediv_iff_mul_le hc];omega
theorem Zv {x a c j:Int} (hc:0<c):a<=x+j*c↔-((x - a) / c)<=j:=by
 have h:-j<=(x - a) / c↔-j*c<=x - a:=Int.le_ediv_iff_mul_le hc
 rw [Int.neg_mul] at h
 constructor
 ·intro h1;have:=h.2 (by omega);omega
 ·intro h1;have:=h.1 (by omega);omega
theorem zd7 (hp:1<=K.pc) (hr:1<=t.r) (a:Nat) (bk u:Int) (m:Nat):(∀j:Int,Uh t K O a bk u m j=true)↔Yg t K O a bk u m=false:=by
 rw [<-Bool.not_eq_true]
 unfold Yg
 rw [YE (by omega)]
 constructor
 ·rintro h ⟨j,h1,h2,h3⟩
  have h4:=h j
  unfold Uh at h4
  have hu:zA t K O m+j*K.pc<=u:=(zd9 (by omega)).2 h2
  have hnear:Vz t K O a bk u m j=true/\¬(m=a/\j=0):=by
   unfold Vz
   unfold zou Uq at h1
   by_cases e:m=a
   ·subst e
    rw [if_pos rfl] at h1
    have hj:1<=j:=by split at h1 <;> omega
    refine⟨?_,by omega⟩
    have h5:0<=j*K.pc:=Int.mul_nonneg (by omega) (by omega)
    rw [decide_eq_true (show zA t K O m<=zA t K O m+j*K.pc by omega),decide_eq_true hu];rfl
   ·rw [if_neg e] at h1
    refine⟨?_,fun h=>e h.1⟩
    by_cases hb:0<bk
    ·rw [if_pos hb] at h1
     by_cases hj:1<=j
     ·rw [decide_eq_true hb,decide_eq_true (show 0<j by omega),decide_eq_true hu];simp
     ·have h6:zA t K O a<=zA t K O m+j*K.pc:=(Zv (by omega)).2 (by omega)
      rw [decide_eq_true h6,decide_eq_true hu];rfl
    ·rw [if_neg hb] at h1
     have h6:zA t K O a<=zA t K O m+j*K.pc:=(Zv (by omega)).2 h1
     rw [decide_eq_true h6,decide_eq_true hu];rfl
  have hna:(decide (m=a) && decide (j=0))=false:=by
   by_cases e1:m=a
   ·rw [decide_eq_false (fun e2=>hnear.2 ⟨e1,e2⟩)];simp
   ·rw [decide_eq_false e1];rfl
  rw [hnear.1,hna,decide_eq_true h3] at h4
  cases h4
 ·intro h j
  unfold Uh
  by_cases h3:(zm K O m+j - zm K O a) % t.r=0
  ·by_cases hna:m=a/\j=0
   ·rw [decide_eq_true hna.1,decide_eq_true hna.2];simp
   ·have hf:Vz t K O a bk u m j=false:=by
     rw [<-Bool.not_eq_true]
     intro hn
     refine h ⟨j,?_,?_,h3⟩
     ·unfold Vz at hn
      unfold zou Uq
      simp only [Bool.or_eq_true,Bool.and_eq_true,decide_eq_true_eq] at hn
      by_cases e:m=a
      ·subst e
       rw [if_pos rfl]
       have hj:1<=j:=by
        rcases hn with ⟨h5,h6⟩ | ⟨⟨h5,h6⟩,h7⟩
        ·by_cases hj:j<=0
         ·have h8:(-j)*1<=(-j)*K.pc:=Int.mul_le_mul_of_nonneg_left hp (by omega)
          rw [Int.neg_mul,Int.neg_mul] at h8
          have:j=0:=by omega
          exact absurd ⟨rfl,this⟩ hna
         ·omega
        ·omega
       split <;> omega
      ·rw [if_neg e]
       rcases hn with ⟨h5,h6⟩ | ⟨⟨h5,h6⟩,h7⟩
       ·have h8:=(Zv (by omega)).1 h5
        split <;> omega
       ·rw [if_pos h5];omega
     ·unfold Vz at hn
      simp only [Bool.or_eq_true,Bool.and_eq_true,decide_eq_true_eq] at hn
      unfold zm2
      refine (zd9 (by omega)).1 ?_
      rcases hn with ⟨h5,h6⟩ | ⟨⟨h5,h6⟩,h7⟩
      ·exact h6
      ·exact h7
    rw [hf];rfl
  ·rw [decide_eq_false h3];simp
theorem zox (hl:xH L t K O=true) {a:Nat} (ha:a<L.body.length) {bk u:Int} (hu0:0<=u) (hu1:u<=1600):Ui L t K O a bk u=zh (fun m=>!Yg t K O a bk u m) L.body.length:=by
 obtain⟨⟨hp1,hp2,hr1⟩,hrg⟩:=Z4 hl
 unfold Ui
 refine zbf ⟨fun h m hm=>?_,fun h m hm=>?_⟩
 ·have h1:=h m hm
  have h2:∀j:Int,Uh t K O a bk u m j=true:=by
   intro j
   by_cases hj:-4100<=j/\j<=4100
   ·have h9:=zl h1 (j+4100).toNat (by omega)
    have h9':Uh t K O a bk u m (((j+4100).toNat:Int) - 4100)=true:=h9
    rw [show (((j+4100).toNat:Nat):Int) - 4100=j by omega] at h9'
    exact h9'
   ·obtain⟨a1,a2,a3,a4⟩:=hrg a ha
    obtain⟨m1,m2,m3,m4⟩:=hrg m hm
    have hn:Vz t K O a bk u m j=false:=by
     unfold Vz
     by_cases hj2:0<j
     ·have h9:j*1<=j*K.pc:=Int.mul_le_mul_of_nonneg_left hp1 (by omega)
      rw [decide_eq_false (show ¬zA t K O m+j*K.pc<=u by omega)];simp
     ·have h9:(-j)*1<=(-j)*K.pc:=Int.mul_le_mul_of_nonneg_left hp1 (by omega)
      rw [Int.neg_mul,Int.neg_mul] at h9
      rw [decide_eq_false (show ¬zA t K O a<=zA t K O m+j*K.pc by omega),decide_eq_false hj2];simp
    unfold Uh
    rw [hn];rfl
  have h3:=(zd7 (by omega) hr1 a bk u m).1 h2
  show (!Yg t K O a bk u m)=true
  rw [h3];rfl
 ·have h1:=h m hm
  have h3:Yg t K O a bk u m=false:=by simpa using h1
  exact zN fun j _=>(zd7 (by omega) hr1 a bk u m).2 h3 _
theorem zhz (hl:xH L t K O=true) {a:Nat} (ha:a<L.body.length):Y7 L t K O a=zh (fun m=>!YH t K O a m) L.body.length:=by
 obtain⟨⟨hp1,hp2,hr1⟩,hrg⟩:=Z4 hl
 unfold Y7
 refine zbf ⟨fun h m hm=>?_,fun h m hm=>?_⟩
 ·have h1:=h m hm
  obtain⟨a1,a2,a3,a4⟩:=hrg a ha
  obtain⟨m1,m2,m3,m4⟩:=hrg m hm
  have hf:YH t K O a m=false:=by
   rw [<-Bool.not_eq_true]
   unfold YH
   rw [YE (by omega)]
   rintro ⟨j,h2,h3,h4⟩
   unfold Uq at h2
   by_cases e:m=a
   ·rw [if_pos e] at h2;omega
   ·rw [if_neg e] at h2
    have h5:=(Zv (by omega)).2 h2
    have h9:(-j)*1<=(-j)*K.pc:=Int.mul_le_mul_of_nonneg_left hp1 (by omega)
    rw [Int.neg_mul,Int.neg_mul] at h9
    have h6:=zl h1 (-j).toNat (by omega)
    unfold znv at h6
    have ej:(((-j).toNat:Nat):Int)=-j:=by omega
    rw [ej,show zm K O m - -j - zm K O a=zm K O m+j - zm K O a by omega,decide_eq_true h4,decide_eq_false e,Int.neg_mul,decide_eq_false (by omega)] at h6
    cases h6
  show (!YH t K O a m)=true
  rw [hf];rfl
 ·have h1:=h m hm
  have h3:¬(YH t K O a m=true):=by simpa using h1
  refine zN fun j _=>?_
  unfold znv
  by_cases h4:(zm K O m - j - zm K O a) % t.r=0
  ·by_cases e0:m=a/\j=0
   ·rw [decide_eq_true e0.1,decide_eq_true e0.2];simp
   ·by_cases h5:zA t K O m - j*K.pc<zA t K O a
    ·rw [decide_eq_true h5];rfl
    ·exfalso
     by_cases e:m=a
     ·subst e
      have hj:1<=(j:Int):=by
       have:j≠0:=fun h=>e0 ⟨rfl,h⟩
       omega
      have h9:(j:Int)*1<=(j:Int)*K.pc:=Int.mul_le_mul_of_nonneg_left hp1 (by omega)
      omega
     ·refine h3 ?_
      unfold YH
      rw [YE (by omega)]
      refine⟨-(j:Int),?_,by omega,by rw [show zm K O m+-(j:Int) - zm K O a=zm K O m - j - zm K O a by omega];exact h4⟩
      unfold Uq
      rw [if_neg e]
      refine (Zv (by omega)).1 ?_
      rw [Int.neg_mul];omega
  ·rw [decide_eq_false h4];simp
end Go.Proofs.YtjoapiafpahihabGreat
namespace Go.Proofs.YtjoapiafpahihabGreat
set_option linter.unusedVariables false
structure Rd where
 ra:Int
 rb:Int
 tm:Int
 sg:Int
 nm:Int
def rdZ:Rd:=⟨0,0,0,0,0⟩
def zg1 (l:List Rd) (i:Nat):Rd:=l.getD i rdZ
section
variable (L:Lp) (t:Tg) (K:Kn) (O:List Int)
def yT (s i:Nat):Rd:=⟨(zi (yr (z6 L.body s)) i).1,(zi (yr (z6 L.body s)) i).2,zX K O s,(opJ K O s).sg,if i=1 then (opJ K O s).b else (opJ K O s).a⟩
def zn4 (s:Nat) (i:Nat):List Rd:=(List.range i).map (yT L K O s)
def zc6:Nat->List Rd
 | 0=>[]
 | s+1=>zc6 s++zn4 L K O s (yr (z6 L.body s)).length
def YL:List Rd:=zc6 L K O L.body.length
def zmh (x:Rd):Bool:=decide (x.nm=(zm K O x.ra.toNat - x.rb - x.sg) % t.r)
def zhj (x:Rd):Bool:=zh (fun m=>!Yg t K O x.ra.toNat x.rb (x.tm+x.rb*K.pc) m) L.body.length
def VN:Bool:=zh (xU (xx L t K O L.body.length)) (xx L t K O L.body.length).length
def zck:Bool:=zh (fun i=>Yy K O (zu (z8 L t) i)) (z8 L t).length
def Vg:Bool:=zh (fun i=>zmh t K O (zg1 (YL L K O) i)) (YL L K O).length
def Vb:Bool:=zh (fun i=>zhj L t K O (zg1 (YL L K O) i)) (YL L K O).length
def za7:Bool:=zh (fun i=>zh (fun m=>!YH t K O (nth L.outs i).toNat m) L.body.length) L.outs.length
end
variable {L:Lp} {t:Tg} {K:Kn} {O:List Int}
theorem Zt {k:Nat} {x:Rd}:x∈zc6 L K O k↔∃s,s<k/\∃i,i<(yr (z6 L.body s)).length/\yT L K O s i=x:=by
 induction k with
 | zero =>
   constructor
   ·intro h;cases h
   ·rintro ⟨s,h,-⟩;omega
 | succ k ih =>
   show x∈zc6 L K O k++zn4 L K O k (yr (z6 L.body k)).length↔_
   rw [List.mem_append,ih]
   constructor
   ·rintro (⟨s,h,r⟩ | h)
    ·exact⟨s,by omega,r⟩
    ·obtain⟨i,hi,e⟩:=List.mem_map.1 h
     exact⟨k,by omega,i,List.mem_range.1 hi,e⟩
   ·rintro ⟨s,h,i,hi,e⟩
    by_cases e2:s=k
    ·subst e2
     exact .inr (List.mem_map.2 ⟨i,List.mem_range.2 hi,e⟩)
    ·exact .inl ⟨s,by omega,i,hi,e⟩
theorem zn3 {l:List Rd} {i:Nat} (h:i<l.length):zg1 l i∈l:=by
 unfold zg1
 rw [List.getD,List.getElem?_eq_getElem h]
 exact List.getElem_mem _
theorem X9 {p:Rd->Bool} {l:List Rd}:(∀i,i<l.length->p (zg1 l i)=true)↔∀x∈l,p x=true:=by
 constructor
 ·intro h x hx
  obtain⟨i,hi,e⟩:=List.mem_iff_getElem.1 hx
  have:=h i hi
  unfold zg1 at this
  rw [List.getD,List.getElem?_eq_getElem hi] at this
  rw [<-e];exact this
 ·exact fun h i hi=>h _ (zn3 hi)
theorem zp1 (h:xH L t K O=true) {s:Nat} (hs:s<L.body.length):0<=(opJ K O s).sg/\(opJ K O s).sg<=1000/\0<=(opJ K O s).sl/\(opJ K O s).sl<=1000/\0<=(opJ K O s).d/\(opJ K O s).d<=127/\0<=zm K O s/\zm K O s<=1127/\t.r<=128/\(opJ K O s).sg*K.pc=zX K O s - (opJ K O s).sl/\0<=(nth O s)/\(nth O s)<L.body.length:=by
 obtain⟨h1,h2,h3,h4,h5,h6⟩:=Zq h
 obtain⟨⟨hp1,hp2,hr1⟩,hrg⟩:=Z4 h
 have hk:=h3
 unfold Z6 at hk
 simp only [Bool.and_eq_true] at hk
 obtain⟨⟨⟨⟨hk1,hk2⟩,hk3⟩,hk4⟩,hk5⟩:=hk
 obtain⟨u1,u2,u3,hr1',hr2⟩:=yi hk1
 obtain⟨o1,o2,-⟩:=X6 (h6 s hs).1
 have h7:=zl hk5 (yt O s) (by unfold yt;omega)
 have h7':=h7
 unfold yF Xt at h7'
 simp only [Bool.and_eq_true] at h7'
 unfold yF ZK at h7
 simp only [Bool.and_eq_true,decide_eq_true_eq] at h7
 have h8:=zo.1 h7.1.1.1.1.1
 have h9:=zo.1 h7.1.1.1.1.2
 have h10:=h7.1.1.1.2
 have h12:zX K O s=(zq K.ops (yt O s)).sl+(zq K.ops (yt O s)).sg*K.pc:=by unfold zX opJ;rw [Int.mul_comm]
 have h13:(zq K.ops (yt O s)).sg*1<=(zq K.ops (yt O s)).sg*K.pc:=Int.mul_le_mul_of_nonneg_left hp1 h9.1
 obtain⟨g1,g2,-,-⟩:=hrg s hs
 have hd:0<=(zq K.ops (yt O s)).d/\(zq K.ops (yt O s)).d<=t.r - 1:=by
  exact zo.1 h7'.1.1.2.1.1.1.1
 unfold zm opJ
 omega
theorem zg2 (h:xH L t K O=true) {s i:Nat} (hs:s<L.body.length) (hi:i<(yr (z6 L.body s)).length) :
  0<=(yT L K O s i).ra/\(yT L K O s i).ra<L.body.length/\0<=(yT L K O s i).rb/\(yT L K O s i).rb<=3/\0<=(yT L K O s i).tm/\(yT L K O s i).tm<=1000/\0<=(yT L K O s i).sg/\(yT L K O s i).sg<=1000:=by
 obtain⟨h1,-⟩:=Zq h
 obtain⟨-,hrg⟩:=Z4 h
 obtain⟨g1,g2,-,-⟩:=hrg s hs
 obtain⟨r1,r2,r3,r4⟩:=xK h1 hs _ (xv hi)
 obtain⟨o1,o2,-⟩:=zp1 h hs
 exact⟨r1,r2,r3,r4,g1,g2,o1,o2⟩
theorem Yh (hm:zx L=true) {i:Nat} (hi:i<L.outs.length):0<=nth L.outs i/\nth L.outs i<L.body.length:=by
 obtain⟨-,-,-,-,-,h6o,-⟩:=zj hm
 have h9:=ZG L.body.length L.outs (i+1) (by omega) (zN fun k hk=>zl h6o k (by omega))
 have e2:zfy L.outs (i+1)=nth L.outs i:=rfl
 rw [e2] at h9
 omega
theorem znu (hl:xH L t K O=true):yv L t K O=(VN L t K O && zck L t K O && Vg L t K O && Vb L t K O && za7 L t K O):=by
 obtain⟨hm,-⟩:=Zq hl
 obtain⟨⟨hp1,hp2,hr1⟩,hrg⟩:=Z4 hl
 have hu:zh (fun s=>zh (YV L t K O s) (yr (z6 L.body s)).length) L.body.length=(Vg L t K O && Vb L t K O):=by
  unfold Vg Vb
  rw [Bool.eq_iff_iff,Bool.and_eq_true,Yu,Yu,Yu,X9 (p:=zmh t K O),X9 (p:=zhj L t K O)]
  have hone:∀s,s<L.body.length->∀i,i<(yr (z6 L.body s)).length->YV L t K O s i=(zmh t K O (yT L K O s i) && zhj L t K O (yT L K O s i)):=by
   intro s hs i hi
   obtain⟨r1,r2,r3,r4,r5,r6,r7,r8⟩:=zg2 hl hs hi
   have hb:(yT L K O s i).rb*K.pc<=3*200:=Int.mul_le_mul r4 hp2 (by omega) (by omega)
   have hb0:0<=(yT L K O s i).rb*K.pc:=Int.mul_nonneg r3 (by omega)
   have e:=zox hl (a:=(yT L K O s i).ra.toNat) (by omega) (bk:=(yT L K O s i).rb) (u:=(yT L K O s i).tm+(yT L K O s i).rb*K.pc) (by omega) (by omega)
   unfold YV zhj
   rw [<-e]
   rfl
  constructor
  ·intro h
   constructor
   ·intro x hx
    obtain⟨s,hs,i,hi,rfl⟩:=Zt.1 hx
    have h1:=zl (h s hs) i hi
    rw [hone s hs i hi,Bool.and_eq_true] at h1
    exact h1.1
   ·intro x hx
    obtain⟨s,hs,i,hi,rfl⟩:=Zt.1 hx
    have h1:=zl (h s hs) i hi
    rw [hone s hs i hi,Bool.and_eq_true] at h1
    exact h1.2
  ·rintro ⟨h1,h2⟩ s hs
   refine zN fun i hi=>?_
   rw [hone s hs i hi,h1 _ (Zt.2 ⟨s,hs,i,hi,rfl⟩),h2 _ (Zt.2 ⟨s,hs,i,hi,rfl⟩)];rfl
 have ho:zh (fun i=>Y7 L t K O (nth L.outs i).toNat) L.outs.length=za7 L t K O:=by
  unfold za7
  refine zbf ⟨fun h i hi=>?_,fun h i hi=>?_⟩
  ·have:=Yh hm hi
   have h1:=h i hi
   rw [zhz hl (by omega)] at h1
   exact h1
  ·have:=Yh hm hi
   show Y7 L t K O (nth L.outs i).toNat=true
   rw [zhz hl (by omega)]
   exact h i hi
 unfold yv
 rw [hl,hu,ho,Bool.true_and]
 show (zck L t K O && (Vg L t K O && Vb L t K O) && VN L t K O && za7 L t K O)=_
 cases zck L t K O <;> cases Vg L t K O <;> cases Vb L t K O <;> cases VN L t K O <;> cases za7 L t K O <;> rfl
end Go.Proofs.YtjoapiafpahihabGreat
