import Derived.Test.YtjoapiafpahihabGreatCheckA
import Derived.Test.YtjoapiafpahihabGreatKernS
import Derived.Test.YtjoapiafpahihabGreatBase
import Derived.Deep.QuietTactic
import Derived.BigQuiet
import Derived.Test.YtjoapiafpahihabGreatRef10B
import Derived.Test.YtjoapiafpahihabGreatRef67
import Derived.Test.YtjoapiafpahihabGreatRounds
namespace Go.Proofs.YtjoapiafpahihabGreat
open Go.RowKit Go.Joins
set_option linter.unusedVariables false
set_option linter.unusedSimpArgs false
set_option maxRecDepth 8192
theorem zhu {a b:Int} (h:a=b):Ending.returned (iV a)=.returned (iV b):=by rw [h]
theorem YA {n d:Int} (hd:1<=d) (hn:-1000000<=n) (hn2:n<=1000000):-1000000<=n.tdiv d/\n.tdiv d<=1000000/\-1000001<=n / d/\n / d<=1000001:=by
 have h1:n.tdiv d<=1000000/\-1000000<=n.tdiv d:=by
  have h3:=Int.natAbs_tdiv_le_natAbs n d
  omega
 by_cases h:n.tmod d<0
 ·have:=ziz (by omega) h;omega
 ·have:=zlr (by omega) h;omega
structure Lc where
 y:Nat
 tb:Nat
 rb:Nat
 pb:Nat
 tc:Nat
 rc:Nat
 pc:Nat
 dc:Nat
 da:Option Addr
 l0:Value
 l1:Value
 l2:Value
 sv:Value
def zpk (x:Rd):Array Value:=#[iV x.ra,iV x.rb,iV x.tm,iV x.sg,iV x.nm]
def zbe (w:World) (v:Value) (l:List Rd):Prop :=
 ∃ a cap,v=.slice a l.length cap/\l.length<=cap/\cap<=maxLen /\
   (0<l.length->∃blk off,a=some ⟨blk,off,none⟩/\blk<w.heap.size/\∀i,i<l.length->∀j,j<5->w.cell? ⟨blk,off+i*5+j,none⟩=(zpk (zg1 l i))[j]?)
structure UN (c:Lc) (L:Lp) (t:Tg) (K:Kn) (O:List Int) (w:World):Prop where
 blk:w.heap[c.y]?=some (.cells #[c.l0,c.l1,c.l2,iV K.pc,iV t.r,.slice (some ⟨c.tb,0,none⟩) L.body.length c.tc,.slice (some ⟨c.rb,0,none⟩) L.body.length c.rc,.slice (some ⟨c.pb,0,none⟩) L.body.length c.pc,.slice c.da (YL L K O).length c.dc,c.sv] 120 (0,0))
 tm:zg w c.tb 3 L.body.length (fun i=>iV (zX K O i))
 rd:zg w c.rb 3 L.body.length (fun i=>iV (zA t K O i))
 pl:zg w c.pb 3 L.body.length (fun i=>iV (zm K O i))
 ct:L.body.length<=c.tc/\c.tc<=maxLen
 cr:L.body.length<=c.rc/\c.rc<=maxLen
 cp:L.body.length<=c.pc/\c.pc<=maxLen
 rs:zbe w (.slice c.da (YL L K O).length c.dc) (YL L K O)
 lv:zk w (.agg #[c.l0,c.l1,c.l2]) L
theorem UN.cells {c:Lc} {L:Lp} {t:Tg} {K:Kn} {O:List Int} {w:World} (h:UN c L t K O w) :
  w.cell? ⟨c.y,0,none⟩=some c.l0/\w.cell? ⟨c.y,1,none⟩=some c.l1/\w.cell? ⟨c.y,2,none⟩=some c.l2/\w.cell? ⟨c.y,3,none⟩=some (iV K.pc)/\w.cell? ⟨c.y,4,none⟩=some (iV t.r)/\w.cell? ⟨c.y,5,none⟩=some (.slice (some ⟨c.tb,0,none⟩) L.body.length c.tc)/\w.cell? ⟨c.y,6,none⟩=some (.slice (some ⟨c.rb,0,none⟩) L.body.length c.rc)/\w.cell? ⟨c.y,7,none⟩=some (.slice (some ⟨c.pb,0,none⟩) L.body.length c.pc)/\w.cell? ⟨c.y,8,none⟩=some (.slice c.da (YL L K O).length c.dc)/\w.cell? ⟨c.y,9,none⟩=some c.sv:=by
 have key:=cell_of_block h.blk
 refine⟨?_,?_,?_,?_,?_,?_,?_,?_,?_,?_⟩ <;> rw [key] <;> rfl
theorem UN.lt {c:Lc} {L:Lp} {t:Tg} {K:Kn} {O:List Int} {w:World} (h:UN c L t K O w):c.y<w.heap.size:=(Array.getElem?_eq_some_iff.1 h.blk).1
theorem zbe.below {w w':World} {v:Value} {l:List Rd} (h:zbe w v l) (hb:Below w.heap.size w w'):zbe w' v l:=by
 obtain⟨a,cap,e,h1,h2,h3⟩:=h
 refine⟨a,cap,e,h1,h2,fun hp=>?_⟩
 obtain⟨b,off,e1,h4,h5⟩:=h3 hp
 exact⟨b,off,e1,Nat.lt_of_lt_of_le h4 hb.size,fun i hi j hj=>(zc hb _ _ h4).trans (h5 i hi j hj)⟩
theorem UN.below {c:Lc} {L:Lp} {t:Tg} {K:Kn} {O:List Int} {w w':World} (h:UN c L t K O w) (hb:Below w.heap.size w w'):UN c L t K O w' :=
 ⟨(hb.block _ h.lt).trans h.blk,h.tm.below hb h.tm.lt,h.rd.below hb h.rd.lt,h.pl.below hb h.pl.lt,h.ct,h.cr,h.cp,h.rs.below hb,h.lv.below hb⟩
theorem UN.drawn {c:Lc} {L:Lp} {t:Tg} {K:Kn} {O:List Int} {w:World} (h:UN c L t K O w) (n:Nat):UN c L t K O (w.drewN n):=h.below (below_draws _ _ _)
end Go.Proofs.YtjoapiafpahihabGreat
