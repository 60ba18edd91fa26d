/-
  A trusted part as plain data; what starts and requests make of it, and tell.
-/
import Derived.Test.YtpdnnmabijmfbaaGreatDoorBs19
namespace Go.Proofs.YtpdnnmabijmfbaaGreatDoor
set_option maxRecDepth 20000
structure TeM where
 i:Int
 n:Int
 V:VaM
 s:SeM
 e:Int
structure TeM.Good (t:TeM):Prop where
 V:t.V.Good
 s:t.s.Ok
 i1:1≤t.i
 i2:t.i≤21
 n1:0≤t.n
 n2:t.n≤1000
def startT (i n:Int) (V:VaM):TeM:=if loadE V=0 then ⟨i,n,keepV V (loadS V),loadS V,keepE V (loadS V)⟩ else ⟨i,n,V,loadS V,loadE V⟩
structure TaM where
 t:TeM
 a:AtM
 e:Int
def haltQ (t:TeM):TaM:=⟨t,atZ,8⟩
noncomputable def keptT (t:TeM) (q:TldM):TaM:=
  if q.e=0 then
    (if keepE t.V q.s=0 then ⟨⟨t.i,t.n,keepV t.V q.s,q.s,0⟩,signA ⟨t.i,q.a.ki,q.a.vi,q.a.ph,q.a.ha,q.a.pv,q.a.pa,q.a.tg⟩,0⟩
     else ⟨⟨t.i,t.n,keepV t.V q.s,t.s,keepE t.V q.s⟩,atZ,8⟩)
  else ⟨t,atZ,q.e⟩
noncomputable def newT (t:TeM) (v:Int):TaM:=if t.e=0 then keptT t (newQ t.s v) else haltQ t
noncomputable def prepT (t:TeM) (b:BkM) (a:AcM):TaM:=if t.e=0 then keptT t (prepQ t.s t.n b a) else haltQ t
noncomputable def storeT (t:TeM) (c:CtM):TaM:=if t.e=0 then keptT t (storeQ t.s t.n c) else haltQ t
noncomputable def accuT (t:TeM) (v:Int) (l:List AtM):AcM × Int:=if t.e=0 then makeX t.i t.n v l else (acZ,8)
theorem mayA_by {a:AtM} {i:Int} (h1:1≤i) (h2:i≤21) (h:mayA ⟨1,a.ki,a.vi,a.ph,a.ha,a.pv,a.pa,a.tg⟩=true):mayA ⟨i,a.ki,a.vi,a.ph,a.ha,a.pv,a.pa,a.tg⟩=true:=by
 have h3:=mayA_iff h
 simp only at h3
 unfold mayA at h ⊢
 simp only at h ⊢
 rw [if_neg (by omega)] at h
 rw [if_neg (by omega)]
 exact h
theorem startT_good {i n:Int} {V:VaM} (g:V.Good) (h1:1≤i) (h2:i≤21) (h3:0≤n) (h4:n≤1000):(startT i n V).Good:=by
 unfold startT
 split
 ·exact ⟨keepV_good g (loadS_ok V),loadS_ok V,h1,h2,h3,h4⟩
 ·exact ⟨g,loadS_ok V,h1,h2,h3,h4⟩
theorem keptT_good {t:TeM} {q:TldM} (g:t.Good) (hq:q.Ok):(keptT t q).t.Good:=by
 have:=keepV_good g.V hq.s
 unfold keptT
 split
 ·split
  ·exact ⟨this,hq.s,g.i1,g.i2,g.n1,g.n2⟩
  ·exact ⟨this,g.s,g.i1,g.i2,g.n1,g.n2⟩
 ·exact g
theorem keptT_n (t:TeM) (q:TldM):(keptT t q).t.n=t.n:=by
 unfold keptT
 split
 ·split <;> rfl
 ·rfl
theorem keptT_ok {t:TeM} {q:TldM} (hq:q.Ok):(keptT t q).a.Ok:=by
 unfold keptT
 split
 ·split
  ·exact signA_ok ⟨hq.a.ha,hq.a.pa,hq.a.tg⟩
  ·exact atZ_ok
 ·exact atZ_ok
theorem newT_good {t:TeM} (g:t.Good) (v:Int):(newT t v).t.Good∧(newT t v).a.Ok:=by
 unfold newT
 split
 ·exact ⟨keptT_good g (newQ_ok g.s v),keptT_ok (newQ_ok g.s v)⟩
 ·exact ⟨g,atZ_ok⟩
theorem prepT_good {t:TeM} (g:t.Good) (b:BkM) {a:AcM} (ha:a.Ok):(prepT t b a).t.Good∧(prepT t b a).a.Ok:=by
 unfold prepT
 split
 ·exact ⟨keptT_good g (prepQ_ok g.s ha),keptT_ok (prepQ_ok g.s ha)⟩
 ·exact ⟨g,atZ_ok⟩
theorem storeT_good {t:TeM} (g:t.Good) {c:CtM} (hc:c.Ok):(storeT t c).t.Good∧(storeT t c).a.Ok:=by
 unfold storeT
 split
 ·exact ⟨keptT_good g (storeQ_ok hc),keptT_ok (storeQ_ok hc)⟩
 ·exact ⟨g,atZ_ok⟩
end Go.Proofs.YtpdnnmabijmfbaaGreatDoor
